import Derived.Test.YtjbipapbckajnaaGreatDoorKDStep
import Derived.Test.YtjbipapbckajnaaGreatDoorKWGo4
import Derived.Deep.RegionLaw
import Derived.Deep.AppendLies
import Derived.Laws.AppendOwnNone
import Derived.Deep.CutBlock
set_option maxRecDepth 100000
set_option maxHeartbeats 25600000
namespace Go.Proofs.YtjbipapbckajnaaGreatDoor
open Go.RowKit Go.Proofs.Tryz
def Ap(w:NI)(v:NJ)(L:List Xq):Prop:=∃base xs,w.ownsRow base 176 8 v L.length xs/\fB w 9 231 xs L/\ky xs
def qN(w w':NI)(rb:Nat)(a:NH)(cap:Nat)(bs:List UInt8)(p t:Nat)(e:Ending):Prop:=
 ∃(cost:Int) (v:NJ) (L:List Xq) (p':Nat),e= .returned (.agg #[.a cost,v])/\p<=p'/\p'<=p+t/\1<=L.length/\L.length<=20/\(-1000<=cost/\cost<=1000)/\(∀s∈L,s.Tiny)/\
  Ap w' v L/\Rd w' rb a cap bs p'/\Xj rb (rb+1) w w'
variable {bs : List UInt8} {cap p rb : Nat} {a : NH} {w w1 : NI}
theorem ASt.made{b:Nat}(e:Rd w rb a cap bs b)(h:Rd w1 rb a cap bs p)(k:Xj rb (rb+1) w w1)(cost:Int):
  ASt w (w1.alloc (.cells #[.a cost,M0] 73)) rb w1.heap.size a cap bs p cost M0 [] []:=by
 have c:=X_ w1 #[.a cost,M0] 73;have d:K_ w1 (w1.alloc (.cells #[.a cost,M0] 73)):=ah _ _;exact⟨h.kept d,⟨b,e⟩,k.size,k.fQ d,aD.made w1 _ _,c 0 _ rfl,c 1 _ rfl,Nc _ _ _ _,fB.nil _ _ _,λs f=>by simp at f,λn j i=>by simp at i⟩
theorem SSt.made{W:NI}(h:Rd W rb a cap bs p){els fall:Int}(e: -1000<=els/\els<=1000)(f: -1000<=fall/\fall<=1000):
  SSt W (W.alloc (.cells #[M0,.a 0,M0,.a els,.a fall,.bool false,.bool false,.string ⟨#[]⟩] 176)) rb W.heap.size a cap bs p M0 M0 ⟨[],0,[],els,fall,false,false,⟨#[]⟩⟩:=by
 have d:K_ W (W.alloc (.cells #[M0,.a 0,M0,.a els,.a fall,.bool false,.bool false,.string ⟨#[]⟩] 176)):=ah _ _;exact⟨h.kept d,⟨p,h⟩,Me _,.ax d,dz.made W els fall,Nc _ _ _ _,Nc _ _ _ _,⟨E9,λx b=>by simp at b,⟨I1,I4⟩,E9,λx b=>by simp at b,nG e,f,by show (⟨#[]⟩:NG).size<=300;decide⟩⟩
theorem CL(w:NI)(a:NH)(c m:Nat)(l:List NG)(d:l.length=m)(n:l.length<=1000)(f:∀s∈l,s.size<=1000)(h:Strs w a l):
  Calls prog 66 #[.slice a m c] w λe w'=>(∃b:Bool,e= .returned (.bool b))/\K_ w w':=by
 subst d;refine (lC w a c l F5 (λs i=>by have:=f s i;unfold maxLen;omega) h).mono ?_;rintro e w' ⟨⟨r,rfl,_⟩,k⟩;exact⟨⟨r,rfl⟩,k⟩
theorem kU(w:NI)(x:NG):∀j u,([.string x]:List NJ)[j]? =some u->(w.alloc (.cells #[.string x] 9)).cell? ((⟨w.heap.size,0,none⟩:Addr).add j)=some u:=λj u a=>by
 rw[MZ];exact X_ w #[.string x] 9 j u a
theorem ko(x:NG):∀u∈([.string x]:List NJ),u.oneCell'=true:=λu a=>by simp at a;subst a;rfl
variable {xs : List NJ} {v : NJ} {A0 w5 : NI}
theorem jE.ends{m:Nat}{b t:Nat}{cost:Int}{c:List Xq}{e:Ending}(h:jE 20 A0 w5 rb m a cap bs b cost v c xs)(d:aD w5 w.heap.size 73 2)(k0:K_ w A0){n:Nat}(q:Rd w rb a cap bs n)
 (r:e= .returned (.agg #[.a cost,v])) (s:p<=b) (h2:b<=p+t) (x:1<=c.length) (y:c.length<=20) (z: -1000<=cost/\cost<=1000):qN w ((w5.setCell ⟨w.heap.size,0,none⟩ (.a cost)).setCell ⟨w.heap.size,1,none⟩ v) rb a cap bs p t e:=by
 have A:=d.same (o:=0) (.a cost);have B:=(d.set (o:=0) (.a cost)).same (o:=1) v;have f:=A.trans B;have i:Below w.heap.size w5 ((w5.setCell ⟨w.heap.size,0,none⟩ (.a cost)).setCell ⟨w.heap.size,1,none⟩ v):=((Below.refl _ _).setCell (p:=⟨w.heap.size,0,none⟩) (Me _) _).setCell (p:=⟨w.heap.size,1,none⟩) (Me _) _;have j:Xj rb (rb+1) w w5:=⟨h.kb.os.trans k0.os,h.kb.tape.trans k0.tape,h.kb.output.trans k0.output,Mh k0.size h.kb.size,λk l C=>(h.kb.block k (Mf l k0.size) C).trans (k0.block k l)⟩;exact⟨cost,v,c,b,r,s,h2,x,y,z,h.tiny,⟨_,xs,aQ h.own f E8,h.pack.same f E8 E8,h.nV⟩,h.rd.below q i j.size,j.below i⟩
def LP(A0:NI)(ab rb:Nat)(a:NH)(cap:Nat)(bs:List UInt8)(p:Nat)(s8:NJ)(wx:NI):Prop:=
 ∃(n1:Nat) (cost:Int) (p':Nat),s8= .a (1+ (n1:Int))/\n1<=3/\(1<=cost/\cost<=20)/\p<=p'/\p'<=p+4/\ASt A0 wx rb ab a cap bs p' cost M0 [] []
def KT(A0:NI)(ab rb:Nat)(a:NH)(cap:Nat)(bs:List UInt8)(p:Nat)(s7:NJ)(wx:NI):Prop:=
 ∃(cost:Int),s7= .c ab/\(1<=cost/\cost<=20)/\ASt A0 wx rb ab a cap bs (p+2) cost M0 [] []
theorem BO{a:Addr}{l:List NG}(h:Strs w (some a) l):∀j u,(l.map Value.string)[j]? =some u->w.cell? (a.add j)=some u:=by
 intro j u b;rw[List.getElem?_map] at b;obtain⟨x,d,rfl⟩:=Option.map_eq_some_iff.1 b;obtain⟨c,f⟩:=Mk.1 d;obtain⟨k,m,e,_,i⟩:=h j c;simp only[MV] at e;subst e;rw[MZ,i];simp[List.getD,c,f]
theorem Av{a:Addr}{l:List bO}(h:kP w (some a) l):∀j u,(bi l)[j]? =some u->w.cell? (a.add j)=some u:=by
 intro j u b;have k:j<l.length*2:=by rw[<-iG];exact (Mk.1 b).1
 have c:j / 2<l.length:=by omega
 have e:=kQ l (j / 2) (j % 2) c (by omega);rw[show j / 2*2+j % 2=j by omega,b] at e;obtain⟨m,d,f,_,i⟩:=h (j / 2) c;simp only[MV] at f;subst f;have:=i (j % 2) u e.symm;rw[MZ];rw[show d+j / 2*2+j % 2=d+j by omega] at this;exact this
def j_(w:NI)(a:NH)(l:List Xq):Prop:=
 ∀i,i<l.length->∃b o aa ca ac cc,a=some ⟨b,o,none⟩/\b<w.heap.size/\w.rangeAt b (o+i*8) ((l.getD i Xq.zero).cells aa ca ac cc)/\Strs w aa (l.getD i Xq.zero).asks/\kP w ac (l.getD i Xq.zero).cases/\
  (aa=none->(l.getD i Xq.zero).asks.length=0/\ca=0)/\(ac=none->(l.getD i Xq.zero).cases.length=0/\cc=0)
variable {l : List Xq} {w' : NI}
theorem j_.kept(h:j_ w a l)(k:K_ w w'):j_ w' a l:=by
 intro i c;obtain⟨d,o,e,f,j,m,n,b,p,q,r,s,t⟩:=h i c;exact⟨d,o,e,f,j,m,n,Mf b k.size,k.range b p,q.kept k,r.kept k,s,t⟩
def iO(w:NI)(base:Nat)(cs:List NJ)(s:Xq):Prop:=
 ∃aa ca ac cc,cs=s.cells aa ca ac cc/\w.ownsRow base 9 1 (.slice aa s.asks.length ca) s.asks.length (s.asks.map Value.string)/\w.ownsRow base 231 2 (.slice ac s.cases.length cc) s.cases.length (bi s.cases)
variable {cs : List NJ} {s : Xq} {u : TypeId}
theorem iO.same{base:Nat}(h:iO w base cs s)(k:aC u w w')(a:9≠u)(h2:231≠u):iO w' base cs s:=by
 obtain⟨b,c,d,e,f,i,j⟩:=h;exact⟨b,c,d,e,f,aQ i k a,aQ j k h2⟩
theorem iO.base{base base':Nat}(h:iO w base cs s)(a:base'<=base):iO w base' cs s:=by
 obtain⟨b,c,d,e,f,i,j⟩:=h;exact⟨b,c,d,e,f,dM i a,dM j a⟩
theorem iO.step{base:Nat}(h:iO w base cs s):lw w 9 231 cs s:=by
 obtain⟨k,l,m,n,e,c,d⟩:=h;obtain⟨p,q,a,f,i⟩:=dh c;obtain⟨r,t,b,j⟩:=lu d;simp only[MW,true_and] at a b;obtain⟨rfl,rfl⟩:=a;obtain⟨rfl,rfl⟩:=b;exact⟨_,_,_,_,e,i,j,f⟩
theorem iO.nV{base:Nat}(h:iO w base cs s):ky cs:=by
 obtain⟨c,d,f,i,rfl,a,b⟩:=h;exact jU (λe=>by subst e;exact iL a) (λe=>by subst e;exact iL b)
def wZ(cs:List NJ):Option Nat:=(cs.getD 0 undef).ownBlock
def ru(cs:List NJ):Option Nat:=(cs.getD 2 undef).ownBlock
theorem iO.CX{base:Nat}(h:iO w base cs s):(∀b,wZ cs=some b->base<=b/\b<w.heap.size)/\∀b,ru cs=some b->base<=b/\b<w.heap.size:=by
 obtain⟨e,f,i,j,rfl,c,d⟩:=h;exact⟨λb a=>c.lt b a,λb a=>d.lt b a⟩
def kZ(xs:List NJ)(i:Nat):List NJ:=(xs.drop (i*8)).take 8
structure eG (w:NI) (base:Nat) (xs:List NJ) (l:List Xq):Prop where
 len:xs.length=l.length*8
 each:∀i,i<l.length->iO w base (kZ xs i) (l.getD i Xq.zero)
 apart:∀i j,i<l.length->j<l.length->i≠j->(∀b,wZ (kZ xs i)=some b->wZ (kZ xs j)≠some b)/\∀b,ru (kZ xs i)=some b->ru (kZ xs j)≠some b
theorem eG.nil(w:NI)(base:Nat):eG w base [] []:=⟨rfl,λi a=>by simp at a,λi j a=>by simp at a⟩
theorem eG.same{base:Nat}(h:eG w base xs l)(k:aC u w w')(b:9≠u)(h2:231≠u):eG w' base xs l:=
 ⟨h.len,λi d=>(h.each i d).same k b h2,h.apart⟩
theorem eG.packed{base:Nat}(h:eG w base xs l):fB w 9 231 xs l:=⟨h.len,λi c=>(h.each i c).step⟩
theorem eG.push{base H:Nat}(m:eG w base xs l)(d:iO w H cs s)(a:base<=H)(k:∀i,i<l.length->(∀b,wZ (kZ xs i)=some b->b<H)/\∀b,ru (kZ xs i)=some b->b<H):eG w base (xs++cs) (l++ [s]):=by
 have p:cs.length=8:=by obtain⟨_,_,_,_,rfl,_⟩:=d;rfl
 have n:=m.len;have old:∀i,i<l.length->kZ (xs++cs) i=kZ xs i/\(l++ [s]).getD i Xq.zero=l.getD i Xq.zero:=by
  intro i h;refine⟨?_,by simp[List.getD,Ni h]⟩;unfold kZ;rw[List.drop_append_of_le_length E5,List.take_append_of_le_length J9]
 have new:kZ (xs++cs) l.length=cs/\(l++ [s]).getD l.length Xq.zero=s:=by
  refine⟨?_,I9⟩;unfold kZ;rw[<-n,List.drop_left,MO E5]
 refine⟨by simp only[MU,MX,List.length_nil,n,p];omega,λi h=>?_,λi j h q r=>?_⟩
 .by_cases e:i<l.length
  .rw[(old i e).1,(old i e).2];exact m.each i e
  .obtain rfl:i=l.length:=by simp at h;omega
   rw[new.1,new.2];exact d.base a
 .simp only[MU,MX,List.length_nil] at h q;by_cases e:i<l.length
  .by_cases f:j<l.length
   .rw[(old i e).1,(old j f).1];exact m.apart i j e f r
   .obtain rfl:j=l.length:=E5;rw[(old i e).1,new.1];exact⟨λb a c=>by have:=(k i e).1 b a;have:=(d.CX.1 b c).1;omega,λb a c=>by have:=(k i e).2 b a;have:=(d.CX.2 b c).1;omega⟩
  .obtain rfl:i=l.length:=E5;have f:j<l.length:=E5;rw[new.1,(old j f).1];exact⟨λb a c=>by have:=(k j f).1 b c;have:=(d.CX.1 b a).1;omega,λb a c=>by have:=(k j f).2 b c;have:=(d.CX.2 b a).1;omega⟩
structure CSt (w wr:NI) (a:NH) (n cap:Nat) (cost:Int) (v:NJ) (L:List Xq) (xs:List NJ):Prop where
 kept:K_ w wr
 Ki:aD wr w.heap.size 73 2
 arg:wr.cell? ⟨w.heap.size,1,none⟩=some (.slice a n cap)
 res:aD wr (w.heap.size+1) 73 2
 out:aD wr (w.heap.size+2) 73 2
 o0:wr.cell? ⟨w.heap.size+2,0,none⟩=some (.a cost)
 o1:wr.cell? ⟨w.heap.size+2,1,none⟩=some v
 own:wr.ownsRow w.heap.size 176 8 v L.length xs
 pack:eG wr w.heap.size xs L
variable {L : List Xq} {n : Nat} {wr : NI}
theorem CSt.ax{cost:Int}(h:CSt w wr a n cap cost v L xs)(k:K_ wr w'):CSt w w' a n cap cost v L xs:=
 ⟨h.kept.trans k,h.Ki.kept k,(k.cell h.Ki.lt).trans h.arg,h.res.kept k,h.out.kept k,(k.cell h.out.lt).trans h.o0,(k.cell h.out.lt).trans h.o1,ak h.own k,h.pack.same (u:=114) (aC.ax k) E8 E8⟩
variable {w2 : NI}
theorem CSt.fK{cost:Int}(h:CSt w wr a n cap cost v L xs)(f:K_ wr w1)(i:w1.grownBy w2 v.ownBlock):w2.cell? ⟨w.heap.size+2,1,none⟩=some v/\aD w2 (w.heap.size+2) 73 2:=by
 have b:=h.ax f;have j:aC 176 w1 w2:=aC.aI b.own i;obtain⟨c,d,k⟩:=b.out;have e:=j _ c _ _ E8 d;exact⟨by rw[Mt (w:=w1) (e.trans d.symm)];exact b.o1,c,e,k⟩
variable {v' : NJ}
theorem CSt.push{f:NI}{cost:Int}(h:CSt w wr a n cap cost v L xs)(x:K_ wr f)(i:K_ f w1)(y:iO f wr.heap.size cs s)
 (z:w2.ownsRow w.heap.size 176 8 v' (L.length+1) (xs++cs)) (j:w1.grownBy w2 v.ownBlock):CSt w (w2.setCell ⟨w.heap.size+2,1,none⟩ v') a n cap cost v' (L++ [s]) (xs++cs):=by
 have b:=h.ax (x.trans i);have k:aC 176 w1 w2:=aC.aI b.own j;have row:∀c,aD w1 c 73 2->aD w2 c 73 2/\∀o,w2.cell? ⟨c,o,none⟩=w1.cell? ⟨c,o,none⟩:=by
  intro c A;obtain⟨l,m,B⟩:=A;have d:=k _ l _ _ E8 m;exact⟨⟨l,d,B⟩,λo=>Mt (w:=w1) (d.trans m.symm)⟩
 have p:=row _ b.Ki;have C:=row _ b.res;have e:=row _ b.out;have q:=e.1.same (o:=1) v';have D:=h.kept.size;have E:eG w1 w.heap.size (xs++cs) (L++ [s]):=b.pack.push (y.same (u:=114) (aC.ax i) E8 E8) D (λr t=>⟨λc d=>((h.pack.each r t).CX.1 c d).2,λc d=>((h.pack.each r t).CX.2 c d).2⟩);refine⟨(aK b.kept (Me _) b.own j).setCell E9 _,p.1.block (Below.heap_setCell _ _ _ _ E9), ?_,C.1.block (Below.heap_setCell _ _ _ _ E9),e.1.set _,(Xk E5 _).trans ((e.2 0).trans b.o0),aW e.1.row E5 _, ?_,(E.same k E8 E8).same q E8 E8⟩
 .rw[ME _ _ _ _ E9];exact (p.2 1).trans b.arg
 .have:=aQ z q E8;simpa using this
def CS1(wr wx:NI)(s:Xq)(v1 v2:NJ):Prop:=K_ wr wx/\dz wx wr.heap.size v1 v2 s/\wx.ownsRow wr.heap.size 9 1 v1 s.asks.length (s.asks.map Value.string)
def CS2(wr wx:NI)(s:Xq)(v1 v2:NJ):Prop:=CS1 wr wx s v1 v2/\wx.ownsRow wr.heap.size 231 2 v2 s.cases.length (bi s.cases)
def Lg(w w':NI)(cost:Int)(L:List Xq)(e:Ending):Prop:=
 ∃(v:NJ) (xs:List NJ),e= .returned (.agg #[.a cost,v])/\w'.ownsRow w.heap.size 176 8 v L.length xs/\eG w' w.heap.size xs L/\K_ w w'
theorem dz.copied(w:NI)(s:Xq)(b:NH)(c:Nat)(d:NH)(e:Nat):dz (w.alloc (.cells #[.slice b s.asks.length c,.a s.on,.slice d s.cases.length e,.a s.els,.a s.fall,.bool s.fin,.bool s.bad,.string s.give] 176)) w.heap.size (.slice b s.asks.length c) (.slice d s.cases.length e) s:=by
 have f:=X_ w #[.slice b s.asks.length c,.a s.on,.slice d s.cases.length e,.a s.els,.a s.fall,.bool s.fin,.bool s.bad,.string s.give] 176;have a:∀j v,(#[.slice b s.asks.length c,.a s.on,.slice d s.cases.length e,.a s.els,.a s.fall,.bool s.fin,.bool s.bad,.string s.give]:Array NJ).toList[j]? =some v->(w.alloc (.cells #[.slice b s.asks.length c,.a s.on,.slice d s.cases.length e,.a s.els,.a s.fall,.bool s.fin,.bool s.bad,.string s.give] 176)).cell? ⟨w.heap.size,j,none⟩=some v:=λj v h=>by
  have:=f j v h;rw[MM] at this;exact this
 exact⟨aD.made w _ _,a 0 _ rfl,a 1 _ rfl,a 2 _ rfl,a 3 _ rfl,a 4 _ rfl,a 5 _ rfl,a 6 _ rfl,a 7 _ rfl⟩
variable {xs0 : List NJ} {n0 : Nat} {u0 v0 : NJ} {W1 : NI}
theorem CS1.mk'{v1 v2:NJ}(e:K_ wr W1)(f:dz W1 wr.heap.size v0 v2 s)(a:K_ W1 w1)(b:w1.ownsRow wr.heap.size 9 1 u0 n0 xs0)(c:w1.grownBy w2 u0.ownBlock)
 (h:w2.ownsRow wr.heap.size 9 1 v1 s.asks.length (s.asks.map Value.string)):CS1 wr (w2.setCell ⟨wr.heap.size,0,none⟩ v1) s v1 v2:=by
 have d:dz w2 wr.heap.size v0 v2 s:=(f.kept a).same (aC.aI b c) E8;exact⟨(aK (e.trans a) (Me _) b c).setCell (Me _) _,d.asks v1 s.asks,aQ h (d.row.same _) E8⟩
theorem CS1.box{v2:NJ}(a:dz W1 wr.heap.size v0 v2 s)(b:K_ W1 w1)(c:w1.ownsRow wr.heap.size 9 1 u0 n0 xs0)(d:w1.grownBy w2 u0.ownBlock):dz w2 wr.heap.size v0 v2 s:=
 (a.kept b).same (aC.aI c d) E8
theorem CS2.mk'{v1 v2:NJ}(h:CS1 wr W1 s v1 v0)(a:K_ W1 w1)(c:w1.ownsRow wr.heap.size 231 2 u0 n0 xs0)(d:w1.grownBy w2 u0.ownBlock)
 (f:w2.ownsRow wr.heap.size 231 2 v2 s.cases.length (bi s.cases)):CS2 wr (w2.setCell ⟨wr.heap.size,2,none⟩ v2) s v1 v2:=by
 obtain⟨i,j,k⟩:=h;have e:=aC.aI c d;have b:dz w2 wr.heap.size v1 v0 s:=(j.kept a).same e E8;exact⟨⟨(aK (i.trans a) (Me _) c d).setCell (Me _) _,b.cases v2 s.cases,aQ (aQ (ak k a) e E8) (b.row.same _) E8⟩,aQ f (b.row.same _) E8⟩
theorem CS2.box{v1:NJ}(h:CS1 wr W1 s v1 v0)(b:K_ W1 w1)(c:w1.ownsRow wr.heap.size 231 2 u0 n0 xs0)(d:w1.grownBy w2 u0.ownBlock):dz w2 wr.heap.size v1 v0 s:=
 (h.2.1.kept b).same (aC.aI c d) E8
theorem vV(w:NI)(r:Option Nat):w.grownBy w r:=⟨rfl,rfl,rfl,Me _,λ_ _ _=>rfl⟩
theorem Ck(w:NI){base:Nat}(a:base<=w.heap.size)(t:TypeId)(size:Nat):(w.alloc (.cells #[] t)).ownsRow base t size (.b w.heap.size 0 0) 0 []:=
 ML w #[] 0 a (Mg _) E9
theorem CK(w:NI)(cost:Int)(a:NH)(v:Nat)(l:List Xq)(hl:l.length<=1000){mN:Nat}(f7:mN<=1000)(hs:∀s∈l,s.TinyN mN)(hS:j_ w a l):
  Calls prog 193 #[.agg #[.a cost,.slice a l.length v]] w λe w'=>Lg w w' cost l e:=by
 go_enter func193,ntmps193
 go_wp2
 have k0:K_ w (((w.alloc (.cells #[.a cost,.slice a l.length v] 73)).alloc (.cells #[.a 0,M0] 73)).alloc (.cells #[.a cost,M0] 73)):=((ah _ _).alloc _).alloc _;go_loopg [4] l.length (λg b6 wr=>∃(k:Nat) (b2:NJ) (D:List NJ),k+g=l.length/\b6= .a k/\CSt w wr a l.length v cost b2 (l.take k) D)
 case atStart=>
  have Y:=X_ ((w.alloc (.cells #[.a cost,.slice a l.length v] 73)).alloc (.cells #[.a 0,M0] 73)) #[.a cost,M0] 73;simp only[MS] at Y;refine⟨0,M0,[],E5,rfl,⟨k0, ?_, ?_, ?_, ?_,Y 0 _ rfl,Y 1 _ rfl,Nc _ _ _ _,eG.nil _ _⟩⟩
  .exact aD.kept (aD.made w #[.a cost,.slice a l.length v] 73) ((ah _ _).alloc _)
  .rw[K_.cell (w:=w.alloc (.cells #[.a cost,.slice a l.length v] 73)) ((ah _ _).alloc _) E9];exact X_ w _ _ 1 _ rfl
  .exact aD.kept (by have:=aD.made (w.alloc (.cells #[.a cost,.slice a l.length v] 73)) #[.a 0,M0] 73;simpa using this) (ah _ _)
  .have:=aD.made ((w.alloc (.cells #[.a cost,.slice a l.length v] 73)).alloc (.cells #[.a 0,M0] 73)) #[.a cost,M0] 73;simpa using this
 case round=>
  clear k0;obtain⟨k,b2,D,Z,rfl,R⟩:=hrel;have b:=Kz R;have p1:=R.arg;have zp:=R.Ki.lt;clear R;by_cases S:k<l.length
  .obtain⟨f8,o,T,U,E,F,rfl,hb,i,hA,a0,z,A⟩:=(hS.kept b.o.kept) k S;have G:=hs (l.getD k Xq.zero) (by simp[List.getD,S]);obtain⟨s,a1⟩:=aj (l.getD k Xq.zero);rw[<-a1] at i hA a0 G z A;have b7:=Kz a1;clear a1;have c0:=i 0 _ rfl;have c1:=i 1 _ rfl;have c2:=i 2 _ rfl;have c3:=i 3 _ rfl;have c4:=i 4 _ rfl;have c5:=i 5 _ rfl;have c6:=i 6 _ rfl;have c7:=i 7 _ rfl;rw[M_] at c0;clear i;have⟨HA,b8⟩:=aH hA a0;have x:=Kz (dz.copied wr s T U E F);have y:Hid (K_ wr (wr.alloc (.cells #[.slice T s.asks.length U,.a s.on,.slice E s.cases.length F,.a s.els,.a s.fall,.bool s.fin,.bool s.bad,.string s.give] 176))):=ah _ _;have b9:=G.asks;have c8:=G.cases;have f9:=Kz G;clear hA a0 G;have g0:(k:Int)<l.length:=E5;go_upto_region 6 with fail
   obtain⟨H,b3⟩:=aj (wr.alloc (.cells #[.slice T s.asks.length U,.a s.on,.slice E s.cases.length F,.a s.els,.a s.fall,.bool s.fin,.bool s.bad,.string s.give] 176));rw[<-b3] at x y⊢;clear b3 c0 c1 c2 c3 c4 c5 c6 c7 p1;have y0:=x.o.c0;have I:=x.o.row.lt;have c9:=y.o.size;obtain⟨_,f0⟩:=x.o.cell (o:=0) E5;obtain⟨ia,d0,d1,d2,d3⟩:=aP Tryz.gJ;obtain⟨ic,d4,d5,d6,d7⟩:=aP Tryz.pU;have c:=Kz (Ck H (base:=wr.heap.size) y.o.size 9 1);have d:Hid (K_ H (H.alloc (.cells #[] 9))):=ah _ _;go_cut [5] from 9 to 36 (λs5 wx=>∃V,s5= .c wr.heap.size/\CS1 wr wx s V (.slice E s.cases.length F))
   case first=>
    rcases T with _|ad
    .obtain⟨B,J⟩:=z rfl;have a2:Hid (s.asks=[]):=Nz B;rw[B,J] at y0;clear z A b9 B J;go_wp2
     go_meet
     rw[<-World.setCell_alloc_past _ _ _ _ I];exact⟨_,rfl,CS1.mk' y.o x.o d.o c.o (vV _ _) (by rw[a2.o];exact c.o)⟩
    .have K:=Kz (BO ((HA.o.kept y.o).kept d.o));have a3:wr.heap.size<=(H.alloc (.cells #[] 9)).heap.size:=(y.o.trans d.o).size;clear z A;go_wp2_with (at_builtin;refine wpList_append_own _ rfl (.tmp 21) (.tmp 23) 26 rfl wr.heap.size 9 ia _ 1 16 underlying26 d0 d1 d2 d3 rfl E8 (.b H.heap.size 0 0) 0 [] rfl c.o ad s.asks.length U (s.asks.map Value.string) rfl E9 K.o (wm _) F5 E5 a3 ?_;intro V w2 n C _;rw[MM,List.nil_append] at n;obtain⟨d8,d9,rfl⟩:=ay n;have f:=CS1.box x.o d.o c.o C;have L:=f.c0;have z2:=f.row.lt;obtain⟨_,W⟩:=f.cell (o:=0) E5;have a4:=Kz n;have a5:=Kz C;clear n C f)
     go_meet
     exact⟨_,rfl,CS1.mk' y.o x.o d.o c.o a5.o a4.o⟩
   case rest=>
    clear c d y0 I f0 c9;obtain⟨V,rfl,h1⟩:=hcut;obtain⟨M,rfl⟩:=aj wc;have j:=Kz h1;clear h1 x y;have L:=j.o.2.1.c2;have I:=j.o.2.1.row.lt;obtain⟨_,W⟩:=j.o.2.1.cell (o:=2) E5;have c:=Kz (Ck M (base:=wr.heap.size) j.o.1.size 231 2);have d:Hid (K_ M (M.alloc (.cells #[] 231))):=ah _ _;go_upto_region 7 with fail
    go_cut [5] from 9 to 36 (λs5 wx=>∃v2,s5= .c wr.heap.size/\CS2 wr wx s V v2)
    case first=>
     rcases E with _|ad
     .obtain⟨B,J⟩:=A rfl;have a2:Hid (s.cases=[]):=Nz B;rw[B,J] at L;clear z A c8 B J;go_wp2
      go_meet
      rw[<-World.setCell_alloc_past _ _ _ _ I];exact⟨_,rfl,CS2.mk' j.o d.o c.o (vV _ _) (by rw[a2.o];exact c.o)⟩
     .have K:=Kz (Av ((b8.o.kept j.o.1).kept d.o));have a3:wr.heap.size<=(M.alloc (.cells #[] 231)).heap.size:=(j.o.1.trans d.o).size;clear z A;go_wp2_with (at_builtin;refine wpList_append_own _ rfl (.tmp 26) (.tmp 28) 174 rfl wr.heap.size 231 ic _ 2 24 underlying174 d4 d5 d6 d7 rfl E8 (.b M.heap.size 0 0) 0 [] rfl c.o ad s.cases.length F (bi s.cases) rfl (iG _) K.o (wh _) F5 E5 a3 ?_;intro v2 w2 n C _;rw[MM,List.nil_append] at n;obtain⟨d8,d9,rfl⟩:=ay n;have f:=CS2.box j.o d.o c.o C;have L:=f.c2;have z2:=f.row.lt;obtain⟨_,W⟩:=f.cell (o:=2) E5;have a4:=Kz n;have a5:=Kz C;clear n C f)
      go_meet
      exact⟨_,rfl,CS2.mk' j.o d.o c.o a5.o a4.o⟩
    case rest=>
     clear c d L I W j;obtain⟨v2,rfl,h2⟩:=hcut;obtain⟨⟨k4,h,a6⟩,a7⟩:=h2;obtain⟨p,q,rfl⟩:=ay a6;obtain⟨r,t,rfl⟩:=ay a7;have e0:Hid (iO wc wr.heap.size (s.cells p q r t) s):=⟨p,q,r,t,rfl,a6,a7⟩;have⟨g1,a8⟩:=aH h k4;clear a6 a7;have c0:=h.c0;have c1:=h.c1;have c2:=h.c2;have c3:=h.c3;have c4:=h.c4;have c5:=h.c5;have c6:=h.c6;have c7:=h.c7;have cz:=h.row.lt;clear h k4;have N:=b.o.ax a8.o;obtain⟨e1,e2,rfl⟩:=ay b.o.own;have o1:=N.o1;have oz:=N.out.lt;have O:K_ wc (wc.alloc (.cells #[.slice p s.asks.length q,.a s.on,.slice r s.cases.length t,.a s.els,.a s.fall,.bool s.fin,.bool s.bad,.string s.give] 176)):=ah _ _;have e3:=Kz O;have b4:=Kz (N.ax O).own;have e4:=Kz (N.ax O).kept.size;have b5:∀X u,(s.cells p q r t)[X]? =some u->(wc.alloc (.cells #[.slice p s.asks.length q,.a s.on,.slice r s.cases.length t,.a s.els,.a s.fall,.bool s.fin,.bool s.bad,.string s.give] 176)).cell? ((⟨wc.heap.size,0,none⟩:Addr).add X)=some u:=λX u hu=>by rw[MZ];exact X_ wc #[.slice p s.asks.length q,.a s.on,.slice r s.cases.length t,.a s.els,.a s.fall,.bool s.fin,.bool s.bad,.string s.give] 176 X u hu
     have K:=Kz b5;obtain⟨is,e5,e6,e7,e8⟩:=aP Tryz.jX;have a9:(l.take k).length=k:=G9;rw[a9] at o1 b4 b;have g2:k<=1000:=E5;have e9:=Kz a9;have f1:=Kz (a8.o.trans O);clear O b5 N z A a9;go_wp2_with (at_builtin;refine wpList_append_own _ rfl (.tmp 32) (.tmp 34) 71 rfl w.heap.size 176 is _ 8 96 underlying71 e5 e6 e7 e8 rfl E8 (.slice e1 k e2) k D rfl b4.o ⟨wc.heap.size,0,none⟩ 1 1 (s.cells p q r t) rfl rfl K.o (jd s p q r t) F5 E5 e4.o ?_;intro v' w2 b0 b1 _;have f:=b.o.fK f1.o b1;have z2:=f.2.lt;obtain⟨⟨_,L⟩,W⟩:=f.2.row.at (i:=1) E5;have f2:=Kz b0;obtain⟨P,Q,rfl⟩:=ay b0;have f3:=Kz b1;clear b0 b1 f)
     go_roundg (gk-1)
     case measure=>omega
     case rel=>
      have et:l.take (k+1)=l.take k++ [s]:=by
       rw[Ml S,b7.o];simp[List.getD,S]
      refine⟨k+1,.slice P (k+1) Q,D++s.cells p q r t,E5,F3, ?_⟩;rw[et];exact b.o.push a8.o e3.o e0.o (by rw[e9.o];exact f2.o) f3.o
  .have f4:k=l.length:=E5;subst f4;rw[MN] at b;have o0:=b.o.o0;obtain⟨P,Q,rfl⟩:=ay b.o.own;have o1:=b.o.o1;have oz:=b.o.out.lt;obtain⟨⟨_,x0⟩,g3⟩:=b.o.res.row.at (i:=0) E5;obtain⟨⟨_,x1⟩,g4⟩:=b.o.res.row.at (i:=1) E5;have rz:=b.o.res.lt;go_wp2
   have hR:=Mi wr (w.heap.size+1) 0 [.a cost,.slice P l.length Q] (b.o.res.row.there (o:=0) (m:=2) (Me _));have f5:=b.o.res.same (o:=0) (.a cost);have f6:=(b.o.res.set (o:=0) (.a cost)).same (o:=1) (.slice P l.length Q);have Z:=f5.trans f6;exact Zx [.a cost,.slice P l.length Q] _ results193 rfl hR underlying73 rfl Tryz.iE rfl ⟨_,D,rfl,aQ b.o.own Z E8,b.o.pack.same Z E8 E8,(b.o.kept.setCell E9 _).setCell E9 _⟩
theorem Tryz.zL :(prog.info? 176).map (·.size)=some 8:=F4
def StW(w:NI)(v:NJ)(L:List Xq):Prop:=
 ∃a cap,v= .slice a L.length cap/\L.length<=cap/\∀i,i<L.length->∃b o cur fr cs,a=some ⟨b,o,none⟩/\w.heap[b]? =some (Obj.cells cur 176 fr)/\w.rangeAt b (o+i*8) cs/\lw w 9 231 cs (L.getD i Xq.zero)/\ky cs
theorem StW.same(h:StW w v L)(k:aC u w w')(i:176≠u)(l:9≠u)(h2:231≠u):StW w' v L:=by
 obtain⟨a,m,n,p,g⟩:=h;refine⟨a,m,n,p,λq r=>?_⟩;obtain⟨b,o,c,d,s,t,e,x,y,z⟩:=g q r;have f:=k b c _ d i e;exact⟨b,o,c,d,s,t,f,λj A B=>by rw[Mt (w:=w) (f.trans e.symm)];exact x j A B,y.same k l h2,z⟩
theorem pR{base g:Nat}(h:w.ownsRow base 176 8 (.b g n cap) n xs)(i:Nat):w.rangeAt g (0+i*8) (kZ xs i):=by
 intro j u a;unfold kZ at a;have d:j<8:=by have:=(Mk.1 a).1;rw[MG] at this;omega
 rw[List.getElem?_take,Nt d,List.getElem?_drop] at a;have:=h.cells (g:=g) rfl _ _ a;rw[MZ] at this;rw[Nat.add_assoc];exact this
theorem JF{i:Nat}{u:NJ}(h:u∈kZ xs i):u∈xs:=List.mem_of_mem_drop (List.mem_of_mem_take h)
theorem StW.gK{base:Nat}(h:w.ownsRow base 176 8 v L.length xs)(b:fB w 9 231 xs L)(c:ky xs):StW w v L:=by
 rcases h.2 with⟨rfl,d⟩|⟨g,e,f,rfl,p,j,k,_,_,_⟩
 .exact⟨none,0,by rw[d],E5,λi a=>E5⟩
 .exact⟨_,e,rfl,k,λi a=>⟨g,0,f,_,_,rfl,j,pR h i,b.2 i a,λn l m=>c n l (JF m)⟩⟩
theorem eG.nV{base:Nat}(h:eG w base xs l):ky xs:=by
 intro n c a;obtain⟨j,b,d⟩:=Ms a;have f:=h.len;have e:j / 8<l.length:=by omega
 refine (h.each (j / 8) e).nV n c ?_;rw[<-d];unfold kZ;refine Mv (i:=j % 8) ?_;rw[List.getElem?_take,Nt (by omega),List.getElem?_drop,show j / 8*8+j % 8=j by omega,Mj b]
def Kl(M:Nat)(w w':NI)(rb:Nat)(a:NH)(cap:Nat)(bs:List UInt8)(p t:Nat)(e:Ending):Prop:=
 ∃(cost:Int) (v:NJ) (L:List Xq) (p':Nat),e= .returned (.agg #[.a cost,v])/\p<=p'/\p'<=p+t/\L.length<=21/\(-1000<=cost/\cost<=1000)/\(∀s∈L,s.TinyN M)/\StW w' v L/\Rd w' rb a cap bs p'/\Xj rb (rb+1) w w'
theorem kV{base size:Nat}{e:TypeId}(h:w.ownsRow base e size v n xs)(a:∀b,v.ownBlock=some b->w'.heap[b]? =w.heap[b]?):w'.ownsRow base e size v n xs:=by
 refine⟨h.1, ?_⟩;rcases h.2 with c|⟨g,d,f,rfl,i,j,rest⟩
 .exact .inl c
 .exact .inr ⟨g,d,f,rfl,i,(a g rfl).trans j,rest⟩
def Oth(w:NI)(base:Nat)(va vc:NJ)(cs:List NJ)(t:Xq):Prop:=iO w base cs t/\(∀b,wZ cs=some b->va.ownBlock≠some b)/\∀b,ru cs=some b->vc.ownBlock≠some b
variable {va vc : NJ}
theorem Oth.same{base:Nat}{t:Xq}(h:Oth w base va vc cs t)(k:aC u w w')(b:9≠u)(h2:231≠u):Oth w' base va vc cs t:=⟨h.1.same k b h2,h.2⟩
theorem Oth.Jt{base:Nat}{t:Xq}(h:Oth w1 base va vc cs t)(i:w1.ownsRow base 9 1 va n xs)(c:w1.grownBy w2 va.ownBlock)(j:v'.ownBlock=va.ownBlock\/v'.ownBlock=some w1.heap.size):Oth w2 base v' vc cs t:=by
 have d:=h.1.CX;obtain⟨⟨k,l,m,p,rfl,q,r⟩,f,s⟩:=h;refine⟨⟨k,l,m,p,rfl,kV q (λb a=>c.block b (d.1 b a).2 (λe=>f b a e.symm)),aQ r (aC.aI i c) E8⟩,λb a=>?_,s⟩;rcases j with e | e
 .rw[e];exact f b a
 .rw[e];intro v;have:=(d.1 b a).2;simp only[MV] at v;omega
theorem Oth.GN{base:Nat}{t:Xq}(h:Oth w1 base va vc cs t)(i:w1.ownsRow base 231 2 vc n xs)(c:w1.grownBy w2 vc.ownBlock)(j:v'.ownBlock=vc.ownBlock\/v'.ownBlock=some w1.heap.size):Oth w2 base va v' cs t:=by
 have d:=h.1.CX;obtain⟨⟨k,l,m,p,rfl,q,r⟩,s,f⟩:=h;refine⟨⟨k,l,m,p,rfl,aQ q (aC.aI i c) E8,kV r (λb a=>c.block b (d.2 b a).2 (λe=>f b a e.symm))⟩,s,λb a=>?_⟩;rcases j with e | e
 .rw[e];exact f b a
 .rw[e];intro v;have:=(d.2 b a).2;simp only[MV] at v;omega
structure eB (M:Nat) (w wr:NI) (rb ob sb:Nat) (a:NH) (cap:Nat) (bs:List UInt8) (p:Nat) (cost:Int) (v:NJ) (L:List Xq) (xs:List NJ) (k:Nat) (va vc:NJ) (s:Xq):Prop where
 st:gy M w wr rb sb a cap bs p va vc s
 obl:w.heap.size<=ob
 row:aD wr ob 73 2
 c0:wr.cell? ⟨ob,0,none⟩=some (.a cost)
 c1:wr.cell? ⟨ob,1,none⟩=some v
 own:wr.ownsRow w.heap.size 176 8 v L.length xs
 sbn:v.ownBlock≠some sb
 len:xs.length=L.length*8
 kl:k<L.length
 oth:∀i,i<L.length->i≠k->Oth wr w.heap.size va vc (kZ xs i) (L.getD i Xq.zero)
 tiny:∀s∈L,s.TinyN M
variable {t : TypeId}
theorem aD.ja{b:Nat}(h:aD w b t n)(k:aC u w w')(e:t≠u):aD w' b t n/\∀o,w'.cell? ⟨b,o,none⟩=w.cell? ⟨b,o,none⟩:=by
 obtain⟨a,c,f⟩:=h;have d:=k _ a _ _ e c;exact⟨⟨a,d,f⟩,λo=>Mt (w:=w) (d.trans c.symm)⟩
variable {M k ob sb : Nat}
theorem eB.drawn{d:Nat}{cost:Int}(h:eB M w wr rb ob sb a cap bs p cost v L xs k va vc s)(f:Rd w' rb a cap bs d)(e:Xj rb (rb+1) wr w'):eB M w w' rb ob sb a cap bs d cost v L xs k va vc s:=by
 have b:=e.sameKind h.st.rd;have c:=h.row.ja b E8;exact⟨h.st.drawn f e,h.obl,c.1,(c.2 0).trans h.c0,(c.2 1).trans h.c1,aQ h.own b E8,h.sbn,h.len,h.kl,λi j l=>(h.oth i j l).same b E8 E8,h.tiny⟩
theorem eB.kept{cost:Int}(h:eB M w wr rb ob sb a cap bs p cost v L xs k va vc s)(c:K_ wr w'):eB M w w' rb ob sb a cap bs p cost v L xs k va vc s:=h.drawn (h.st.rd.kept c) (.ax c)
theorem eB.field{cost:Int}{c:Xq}(h:eB M w wr rb ob sb a cap bs p cost v L xs k va vc s){o:Nat}{x:NJ}(f:dz (wr.setCell ⟨sb,o,none⟩ x) sb va vc c)(i:c.asks=s.asks)(j:c.cases=s.cases)(l:c.TinyN M):eB M w (wr.setCell ⟨sb,o,none⟩ x) rb ob sb a cap bs p cost v L xs k va vc c:=by
 have e:=h.st.box.row.same (o:=o) x;have d:=h.row.ja e E8;exact⟨h.st.field f i j l,h.obl,d.1,(d.2 0).trans h.c0,(d.2 1).trans h.c1,kV h.own (λb m=>Below.heap_setCell _ _ _ _ (λn=>h.sbn (by rw[m,n]))),h.sbn,h.len,h.kl,λq r t=>(h.oth q r t).same e E8 E8,h.tiny⟩
theorem eB.pq{cost:Int}{x:NG}(h:eB M w wr rb ob sb a cap bs p cost v L xs k va vc s)(j:K_ wr w1)
 (m:w2.ownsRow w.heap.size 9 1 v' (s.asks.length+1) (s.asks.map Value.string++ [.string x])) (d:w1.grownBy w2 va.ownBlock) (n:v'.ownBlock=va.ownBlock\/v'.ownBlock=some w1.heap.size) (q:s.asks.length+1<=M) (r:x.size<=300):eB M w (w2.setCell ⟨sb,0,none⟩ v') rb ob sb a cap bs p cost v L xs k v' vc {s with asks:=s.asks++ [x]}:=by
 have c:=h.kept j;have e:aC 9 w1 w2:=aC.aI c.st.asks d;have t:=c.st.box.same e E8;have l:=t.row.same (o:=0) v';have f:=c.row.ja e E8;have i:=f.1.ja l E8;exact⟨h.st.pq j m d q r,h.obl,i.1,(i.2 0).trans ((f.2 0).trans c.c0),(i.2 1).trans ((f.2 1).trans c.c1),kV (aQ c.own e E8) (λb y=>Below.heap_setCell _ _ _ _ (λz=>h.sbn (by rw[y,z]))),h.sbn,h.len,h.kl,
  λA B C=>((c.oth A B C).Jt c.st.asks d n).same l E8 E8,h.tiny⟩
theorem eB.su{cost:Int}{x:bO}(h:eB M w wr rb ob sb a cap bs p cost v L xs k va vc s)(j:K_ wr w1)
 (m:w2.ownsRow w.heap.size 231 2 v' (s.cases.length+1) (bi s.cases++x.cells)) (d:w1.grownBy w2 vc.ownBlock) (n:v'.ownBlock=vc.ownBlock\/v'.ownBlock=some w1.heap.size) (q:s.cases.length+1<=M) (r:x.Tiny):eB M w (w2.setCell ⟨sb,2,none⟩ v') rb ob sb a cap bs p cost v L xs k va v' {s with cases:=s.cases++ [x]}:=by
 have c:=h.kept j;have e:aC 231 w1 w2:=aC.aI c.st.cases d;have t:=c.st.box.same e E8;have l:=t.row.same (o:=2) v';have f:=c.row.ja e E8;have i:=f.1.ja l E8;exact⟨h.st.su j m d q r,h.obl,i.1,(i.2 0).trans ((f.2 0).trans c.c0),(i.2 1).trans ((f.2 1).trans c.c1),kV (aQ c.own e E8) (λb y=>Below.heap_setCell _ _ _ _ (λz=>h.sbn (by rw[y,z]))),h.sbn,h.len,h.kl,
  λA B C=>((c.oth A B C).GN c.st.cases d n).same l E8 E8,h.tiny⟩
theorem eB.cost{cost x:Int}(h:eB M w wr rb ob sb a cap bs p cost v L xs k va vc s):eB M w (wr.setCell ⟨ob,0,none⟩ (.a x)) rb ob sb a cap bs p x v L xs k va vc s:=by
 have b:=h.row.same (o:=0) (.a x);have c:Below w.heap.size wr (wr.setCell ⟨ob,0,none⟩ (.a x)):=(Below.refl _ _).setCell h.obl _;obtain⟨l,d⟩:=h.st.rd0;have e:gy M w (wr.setCell ⟨ob,0,none⟩ (.a x)) rb sb a cap bs p va vc s:=⟨h.st.rd.below d c h.st.kb.size,h.st.rd0,h.st.sbl,h.st.kb.below c,h.st.box.same b E8,aQ h.st.asks b E8,aQ h.st.cases b E8,h.st.tiny⟩;exact⟨e,h.obl,h.row.set _,aW h.row.row E5 _,(Xk E5 _).trans h.c1,aQ h.own b E8,h.sbn,h.len,h.kl,λi f j=>(h.oth i f j).same b E8 E8,h.tiny⟩
theorem aD.setCells{g:Nat}:∀(vs:List NJ) (o:Nat) {w:NI},aD w g t n->aD (w.setCells g o vs) g t n/\aC t w (w.setCells g o vs)
 | [],_,_,h=>⟨h,aC.refl _ _⟩
 | v :: r,o,_,h=>by
  rw[World.setCells];have:=aD.setCells r (o+1) (h.set (o:=o) v);exact⟨this.1,(h.same (o:=o) v).trans this.2⟩
theorem Below.setCells'{B g:Nat}(c:B<=g):∀(vs:List NJ) (o:Nat) {a w:NI},Below B a w->Below B a (w.setCells g o vs)
 | [],_,_,_,h=>h
 | v :: r,o,_,_,h=>by
  rw[World.setCells];exact Below.setCells' c r (o+1) (h.setCell (p:=⟨g,o,none⟩) c v)
structure ui (M:Nat) (w wr:NI) (rb ob:Nat) (a:NH) (cap:Nat) (bs:List UInt8) (p:Nat) (cost:Int) (v:NJ) (L:List Xq):Prop where
 rd:Rd wr rb a cap bs p
 kb:Xj rb (rb+1) w wr
 row:aD wr ob 73 2
 c0:wr.cell? ⟨ob,0,none⟩=some (.a cost)
 c1:wr.cell? ⟨ob,1,none⟩=some v
 stw:StW wr v L
 tiny:∀s∈L,s.TinyN M
theorem eB.store{cost:Int}{g j:Nat}{b c:NH}{d e:Nat}(h:eB M w wr rb ob sb a cap bs p cost (.b g L.length j) L xs k (.slice b s.asks.length d) (.slice c s.cases.length e) s):
  ui M w (wr.setCells g (k*8) (s.cells b d c e)) rb ob a cap bs p cost (.b g L.length j) (L.set k s):=by
 have K:=h.kl;have N:=h.len;rcases h.own.2 with⟨f,_⟩|⟨O,P,z,f,A,B,C,_,D,_⟩
 .simp at f
 simp only[MW,MV,ND,and_true,true_and] at f;obtain⟨rfl,rfl⟩:=f;have t:aD wr g 176 (j*8):=⟨z,B,D⟩;have l:=aD.setCells (s.cells b d c e) (k*8) t;have m:=h.row.ja l.2 E8;have v:Below w.heap.size wr (wr.setCells g (k*8) (s.cells b d c e)):=Below.setCells' A _ _ (Below.refl _ _);obtain⟨Q,E⟩:=h.st.rd0;obtain⟨x,y,_⟩:=l.1;refine⟨h.st.rd.below E v h.st.kb.size,h.st.kb.below v,m.1,(m.2 0).trans h.c0,(m.2 1).trans h.c1,⟨some ⟨g,0,none⟩,j,by rw[Np],by rw[Np];exact C,λi n=>?_⟩,λF G=>?_⟩
 .rw[Np] at n;by_cases f:i=k
  .subst f;refine⟨g,0,x,_,s.cells b d c e,rfl,y, ?_, ?_, ?_⟩
   .rw[MM];exact Mi wr g (i*8) (s.cells b d c e) (t.row.there (by show i*8+8<=j*8;omega))
   .have q:(L.set i s).getD i Xq.zero=s:=by simp[List.getD,n]
    rw[q];exact (iO.step ⟨b,d,c,e,rfl,h.st.asks,h.st.cases⟩).same l.2 E8 E8
   .exact iO.nV ⟨b,d,c,e,rfl,h.st.asks,h.st.cases⟩
  .have r:=(h.oth i n f).1;have H:(kZ xs i).length=8:=by obtain⟨_,_,_,_,I,_⟩:=r;rw[I];rfl
   refine⟨g,0,x,_,kZ xs i,rfl,y, ?_, ?_,r.nV⟩
   .refine Mx (pR h.own i) g (k*8) _ (.inr ?_);show 0+i*8+ (kZ xs i).length<=k*8\/k*8+8<=0+i*8;rw[H];omega
   .have q:(L.set k s).getD i Xq.zero=L.getD i Xq.zero:=by simp[List.getD,Ne.symm f]
    rw[q];exact r.step.same l.2 E8 E8
 .rcases List.mem_or_eq_of_mem_set G with J|rfl
  .exact h.tiny F J
  .exact h.st.tiny
theorem ui.ends{b:Nat}{c t:Nat}{cost:Int}{e:Ending}(h:ui M A0 wr rb ob a cap bs c cost v L)(d:aD wr b 73 2)(f:w.heap.size<=b)(k0:K_ w A0){m:Nat}(n:Rd w rb a cap bs m)
 (q:e= .returned (.agg #[.a cost,v])) (r:p<=c) (h2:c<=p+t) (s:L.length<=21) (x: -1000<=cost/\cost<=1000):Kl M w ((wr.setCell ⟨b,0,none⟩ (.a cost)).setCell ⟨b,1,none⟩ v) rb a cap bs p t e:=by
 have y:=d.same (o:=0) (.a cost);have z:=(d.set (o:=0) (.a cost)).same (o:=1) v;have A:=y.trans z;have i:Below w.heap.size wr ((wr.setCell ⟨b,0,none⟩ (.a cost)).setCell ⟨b,1,none⟩ v):=((Below.refl _ _).setCell (p:=⟨b,0,none⟩) f _).setCell (p:=⟨b,1,none⟩) f _;have j:Xj rb (rb+1) w wr:=⟨h.kb.os.trans k0.os,h.kb.tape.trans k0.tape,h.kb.output.trans k0.output,Mh k0.size h.kb.size,λk l B=>(h.kb.block k (Mf l k0.size) B).trans (k0.block k l)⟩;exact⟨cost,v,L,c,q,r,h2,s,x,h.tiny,h.stw.same A E8 E8 E8,h.rd.below n i j.size,j.below i⟩
theorem eB.made{b:NI}{x:Nat}{cost:Int}{d e:NH}{f h:Nat}(D:Rd b rb a cap bs p)(E:Rd A0 rb a cap bs x)(y:Xj rb (rb+1) A0 b)(F:A0.heap.size<=ob)(m:aD b ob 73 2)
 (G:b.cell? ⟨ob,0,none⟩=some (.a cost)) (c1:b.cell? ⟨ob,1,none⟩=some v) (own:b.ownsRow A0.heap.size 176 8 v L.length xs) (i:eG b A0.heap.size xs L) (j:k<L.length) (z:∀s∈L,s.TinyN M) (A:s=L.getD k Xq.zero) (n:kZ xs k=s.cells d f e h):
  eB M A0 (b.alloc (.cells #[.slice d s.asks.length f,.a s.on,.slice e s.cases.length h,.a s.els,.a s.fall,.bool s.fin,.bool s.bad,.string s.give] 176)) rb ob b.heap.size a cap bs p cost v L xs k (.slice d s.asks.length f) (.slice e s.cases.length h) s:=by
 have c:K_ b (b.alloc (.cells #[.slice d s.asks.length f,.a s.on,.slice e s.cases.length h,.a s.els,.a s.fall,.bool s.fin,.bool s.bad,.string s.give] 176)):=ah _ _;have H:s.TinyN M:=z s (by rw[A];simp[List.getD,j]);have B:=i.each k j;rw[n,<-A] at B;obtain⟨K,N,O,P,l,I,J⟩:=B;simp only[Xq.cells,List.cons.injEq,MW,true_and,and_true] at l;obtain⟨⟨rfl,rfl⟩,rfl,rfl⟩:=l;refine⟨⟨D.kept c,⟨x,E⟩,y.size,y.fQ c,dz.copied b s d f e h,ak I c,ak J c,H⟩,F,m.kept c,(c.cell m.lt).trans G,(c.cell m.lt).trans c1,ak own c,λl=>?_,i.len,j,λq r C=>⟨(i.each q r).same (u:=114) (aC.ax c) E8 E8,λt w=>?_,λt w=>?_⟩,z⟩
 .have:=(own.lt _ l).2;omega
 .have:=(i.apart q k r j C).1 t w;rw[n] at this;exact this
 .have:=(i.apart q k r j C).2 t w;rw[n] at this;exact this
theorem ui.made{cost:Int}(c:Rd wr rb a cap bs p)(d:Xj rb (rb+1) A0 wr)(e:aD wr ob 73 2)
 (f:wr.cell? ⟨ob,0,none⟩=some (.a cost)) (c1:wr.cell? ⟨ob,1,none⟩=some v) (own:wr.ownsRow A0.heap.size 176 8 v L.length xs) (b:eG wr A0.heap.size xs L) (h:∀s∈L,s.TinyN M):ui M A0 wr rb ob a cap bs p cost v L:=
 ⟨c,d,e,f,c1,StW.gK own b.packed b.nV,h⟩
theorem uY(cs:List Int)(k:Xj rb (rb+1) (w.alloc (.cells (cs.map (Value.int .i64)).toArray t)) w5)(d:rb<w.heap.size)(q:Nat)(a:q<cs.length)(b:∀c∈cs, -1000<=c/\c<=1000):∃c,w5.cell? ⟨w.heap.size,q,none⟩=some (.a c)/\ -1000<=c/\c<=1000:=by
 refine⟨cs[q], ?_,b _ (Mq a)⟩;rw[k.cell E9 E5,World.cell?_alloc_mark];simp[a]
theorem in64_wrap64(x:Int):In64 (wrap64 x):=by
 unfold In64 wrap64;omega
theorem uW(w:NI)(s:NG)(m:Int)(n:Nat)(a:m= (n:Int))(b:n<=1000)(c:s.size<=100):
  Calls prog 163 #[.string s,.a m] w λe w'=>(∃t:NG,e= .returned (.string t)/\t.size<=n*s.size)/\w'=w:=by
 rw[a];exact Cf w s n b c
theorem wX(w:NI)(t:TypeId)(cs:List Int)(q:Nat)(a:q<cs.length)(b:∀c∈cs, -1000<=c/\c<=1000):∃c,(w.alloc (.cells (cs.map (Value.int .i64)).toArray t)).cell? ⟨w.heap.size,q,none⟩=some (.a c)/\ -1000<=c/\c<=1000:=by
 refine⟨cs[q], ?_,b _ (Mq a)⟩;rw[World.cell?_alloc_mark];simp[a]
theorem vU{g H:Nat}(h:v.ownBlock=some g\/g=H):(Value.slice (some ⟨g,0,none⟩) n cap).ownBlock=v.ownBlock\/(Value.slice (some ⟨g,0,none⟩) n cap).ownBlock=some H:=by
 rcases h with h|rfl
 .exact .inl h.symm
 .exact .inr rfl
theorem zV(cs:List NG)(k:Xj rb (rb+1) (w.alloc (.cells (cs.map Value.string).toArray t)) w5)(d:rb<w.heap.size)(q:Nat)(a:q<cs.length)(b:∀c∈cs,c.size<=300):∃c,w5.cell? ⟨w.heap.size,q,none⟩=some (.string c)/\c.size<=300:=by
 refine⟨cs[q], ?_,b _ (Mq a)⟩;rw[k.cell E9 E5,World.cell?_alloc_mark];simp[a]
theorem BF(w:NI)(t:TypeId)(cs:List NG)(q:Nat)(a:q<cs.length)(b:∀c∈cs,c.size<=300):∃c,(w.alloc (.cells (cs.map Value.string).toArray t)).cell? ⟨w.heap.size,q,none⟩=some (.string c)/\c.size<=300:=by
 refine⟨cs[q], ?_,b _ (Mq a)⟩;rw[World.cell?_alloc_mark];simp[a]
theorem JG(cs:List Int)(k:Xj rb (rb+1) (w.alloc (.cells (cs.map (Value.int .i64)).toArray t)) w5)(b:rb<w.heap.size)(q:Nat)(a:q<cs.length):∃c∈cs,w5.cell? ⟨w.heap.size,q,none⟩=some (.a c):=by
 refine⟨cs[q],Mq a, ?_⟩;rw[k.cell E9 E5,World.cell?_alloc_mark];simp[a]
structure OSt (W wr:NI) (rb:Nat) (a:NH) (cap:Nat) (bs:List UInt8) (p:Nat) (v:NJ) (l:List NG):Prop where
 rd:Rd wr rb a cap bs p
 rd0:∃p0,Rd W rb a cap bs p0
 kb:Xj rb (rb+1) W wr
 own:wr.ownsRow W.heap.size 9 1 v l.length (l.map Value.string)
 sz:∀x∈l,x.size<=300
section
variable {W wr w' : NI} {rb : Nat} {a : NH} {cap : Nat} {bs : List UInt8} {p p' : Nat} {v : NJ} {l : List NG}
theorem OSt.drawn(h:OSt W wr rb a cap bs p v l)(c:Rd w' rb a cap bs p')(k:Xj rb (rb+1) wr w'):OSt W w' rb a cap bs p' v l:=
 ⟨c,h.rd0,h.kb.trans k,aQ h.own (k.sameKind h.rd) E8,h.sz⟩
theorem OSt.kept(h:OSt W wr rb a cap bs p v l)(k:K_ wr w'):OSt W w' rb a cap bs p v l:=h.drawn (h.rd.kept k) (.ax k)
theorem OSt.push{x:NG}(h:OSt W wr rb a cap bs p v l)(e:K_ wr w1)(f:w2.ownsRow W.heap.size 9 1 v' (l.length+1) (l.map Value.string++ [.string x]))(i:w1.grownBy w2 v.ownBlock)(j:x.size<=300):OSt W w2 rb a cap bs p v' (l++ [x]):=by
 have b:=h.kept e;have d:Below W.heap.size w1 w2:=(Below.refl _ _).grown i b.kb.size (λk m=>(b.own.lt k m).1);obtain⟨q,n⟩:=h.rd0;refine⟨b.rd.below n d b.kb.size,h.rd0,b.kb.below d,by simpa using f,λy c=>?_⟩;simp only[Mo,Mm] at c;rcases c with c | rfl
 .exact h.sz y c
 .exact j
theorem OSt.made{b:Nat}(d:Rd W rb a cap bs b)(h:Rd wr rb a cap bs p)(k:Xj rb (rb+1) W wr):OSt W (wr.alloc (.cells #[] 9)) rb a cap bs p (.b wr.heap.size 0 0) []:=by
 have c:K_ wr (wr.alloc (.cells #[] 9)):=ah _ _;exact⟨h.kept c,⟨b,d⟩,k.fQ c,dM (ML wr #[] 0 (Me _) (Mg _) rfl) k.size,λx f=>by simp at f⟩
end
section
variable {W wr w' : NI} {rb : Nat} {a : NH} {cap : Nat} {bs : List UInt8} {p p' : Nat} {v : NJ} {l : List NG}
theorem eU.take{a:NH}{l:List NG}(h:eU w t a l)(n:Nat):eU w t a (l.take n):=by
 rcases h with rfl|⟨b,c,d,e,f,j⟩
 .exact .inl E9
 .refine .inr ⟨b,c,d,e,f,λi k=>?_⟩;rw[MG] at k;rw[j i E5];simp[List.getD,(E5:i<n)]
end
theorem Fa{a b:NG}(h:(a.toList == b.toList)=true):a=b:=by
 have c:a.toList=b.toList:=by simpa using h
 rw[ByteArray.toList_eq,ByteArray.toList_eq] at c;cases a;cases b;simp at c;rw[c]
theorem tX(w:NI)(a:NH)(p:Nat)(l:List NG)(x:NG)(v:l.length<=1048576)(q:Strs w a l):
  Calls prog 112 #[.slice a l.length p,.string x] w λe w'=>Says e (x∈l)/\w'=w:=by
 go_enter func112,ntmps112
 go_wp2
 go_loopw [5] (λi wr=>∃k:Nat,k<=l.length/\i= .a (k:Int)/\Hid (x∉l.take k)/\wr=w) (λi _=>l.length-(intOf i).toNat)
 case atStart=>exact⟨0,Mg _,rfl,Kz E9,rfl⟩
 case round=>
  obtain⟨k,z,rfl,j,rfl⟩:=hrel;by_cases c:k<l.length
  .obtain⟨b,o,r,A,s⟩:=q k c;subst r;obtain⟨y,d⟩:=aj (l.getD k ByteArray.empty);rw[<-d] at s;have m:l[k]=y:=by rw[d];simp[List.getD,c]
   have n:=Kz m;have B:(k:Int)<(l.length:Int):=E5;clear d m;cases f:(y.toList == x.toList)
   .go_wp2
    go_roundw
    case rel=>
     refine⟨k+1,E5,F3,Kz (λh=>?_),trivial⟩;rw[Ml c,n.o] at h;rcases Mo.1 h with h | h
     .exact j.o h
     .rw[Mm] at h;rw[h] at f;simp at f
    case measure=>simp[intOf];omega
   .go_wp2
    go_ret
    exact⟨Says.yes (by rw[<-Fa f,<-n.o];exact Mq c),rfl⟩
  .have C:¬((k:Int)<(l.length:Int)):=E5;have t:Hid (x∉l):=by have h:=j.o;rw[MO E5] at h;exact h
   clear c;go_wp2
   go_ret
   exact⟨Says.no t.o,rfl⟩
def nO(w:NI)(a:NH)(l:List NG):Prop:=
 l=[]\/∃b o cur fr,a=some ⟨b,o,none⟩/\w.heap[b]? =some (Obj.cells cur 9 fr)/\∀i,i<l.length->w.cell? ⟨b,o+i,none⟩=some (.string (l.getD i ByteArray.empty))
variable {a : NH} {u : TypeId} {w w' : NI}
theorem nO.same{l:List NG}(h:nO w a l)(k:aC u w w')(i:9≠u):nO w' a l:=by
 rcases h with h|⟨b,o,c,d,j,e,m⟩
 .exact .inl h
 .have f:=k b c _ d i e;exact .inr ⟨b,o,c,d,j,f,λn p=>by rw[Mt (w:=w) (f.trans e.symm)];exact m n p⟩
theorem nO.strs{l:List NG}(h:nO w a l):Strs w a l:=by
 rcases h with rfl|⟨c,o,j,k,d,e,f⟩
 .intro i b;simp at b
 .exact λi b=>⟨c,o,d,aN e,f i b⟩
theorem eU.g{l:List NG}(h:eU w 9 a l):nO w a l:=by
 rcases h with h|⟨b,c,d,e,f,i⟩
 .exact .inl h
 .exact .inr ⟨b,0,c,d,e,f,λj k=>by rw[MM];exact i j k⟩
variable {n : Nat}
theorem nO.tail{b o:Nat}{l:List NG}{c:Array NJ}{d:Nat×Nat}(e:w.heap[b]? =some (Obj.cells c 9 d))(f:∀i,i<l.length->w.cell? ⟨b,o+i,none⟩=some (.string (l.getD i ByteArray.empty)))(j:l.drop n≠[]->a=some ⟨b,o+n,none⟩):nO w a (l.drop n):=by
 by_cases h:l.drop n=[]
 .exact .inl h
 .refine .inr ⟨b,o+n,c,d,j h,e,λi k=>?_⟩;rw[List.length_drop] at k;have:=f (n+i) E5;rw[Nat.add_assoc,this];simp[List.getD,List.getElem?_drop]
def GStep(w:NI)(cs:List NJ)(s:Xq):Prop:=∃aa ca ac cc,cs=s.cells aa ca ac cc/\nO w aa s.asks/\oN w 231 ac s.cases/\s.asks.length<=ca
variable {s : Xq}
theorem GStep.same{cs:List NJ}(h:GStep w cs s)(k:aC u w w')(a:9≠u)(h2:231≠u):GStep w' cs s:=by
 obtain⟨b,c,d,e,f,i,j,l⟩:=h;exact⟨b,c,d,e,f,i.same k a,j.same k h2,l⟩
theorem lw.g{cs:List NJ}(h:lw w 9 231 cs s):GStep w cs s:=by
 obtain⟨a,b,c,d,e,f,i,j⟩:=h;exact⟨a,b,c,d,e,f.g,i,j⟩
def dw(w:NI)(v:NJ)(L:List Xq):Prop:=
 ∃a cap,v= .slice a L.length cap/\L.length<=cap/\∀i,i<L.length->∃b o cur fr cs,a=some ⟨b,o,none⟩/\w.heap[b]? =some (Obj.cells cur 176 fr)/\w.rangeAt b (o+i*8) cs/\GStep w cs (L.getD i Xq.zero)/\ky cs
variable {L : List Xq} {v : NJ}
theorem dw.same(h:dw w v L)(k:aC u w w')(i:176≠u)(l:9≠u)(h2:231≠u):dw w' v L:=by
 obtain⟨a,m,n,p,g⟩:=h;refine⟨a,m,n,p,λq r=>?_⟩;obtain⟨b,o,c,d,s,t,e,x,y,z⟩:=g q r;have f:=k b c _ d i e;exact⟨b,o,c,d,s,t,f,λj A B=>by rw[Mt (w:=w) (f.trans e.symm)];exact x j A B,y.same k l h2,z⟩
theorem StW.g(h:StW w v L):dw w v L:=by
 obtain⟨a,c,e,d,g⟩:=h;refine⟨a,c,e,d,λi f=>?_⟩;obtain⟨b,o,j,k,l,m,n,p,q,r⟩:=g i f;exact⟨b,o,j,k,l,m,n,p,q.g,r⟩
theorem dw.EB(h:dw w v L):∃a b,v= .slice a L.length b/\L.length<=b/\j_ w a L:=by
 obtain⟨a,b,e,f,g⟩:=h;refine⟨a,b,e,f,λi j=>?_⟩;obtain⟨k,o,y,z,A,l,m,n,⟨p,q,r,s,rfl,t,x,B⟩,d⟩:=g i j;refine⟨k,o,p,q,r,s,l,aN m,n,t.strs,x.cases,λc=>?_,λc=>?_⟩
 .subst c;exact d _ _ (by simp[Xq.cells])
 .subst c;exact d _ _ (by simp[Xq.cells])
variable {cap : Nat}
theorem dw.steps(h:dw w (.slice a n cap) L):Steps w a L:=by
 obtain⟨t,v,e,x,g⟩:=h;simp only[MW] at e;obtain⟨rfl,rfl,rfl⟩:=e;intro i c;obtain⟨b,o,y,z,A,d,f,j,⟨k,l,m,p,rfl,q,r,s⟩,B⟩:=g i c;exact⟨b,o,_,d,aN f,j,k,l,m,p,rfl,q.strs,r.cases,s⟩
theorem dw.slice(h:dw w v L):∃a cap,v= .slice a L.length cap:=let ⟨a,cap,e,_⟩:=h;⟨a,cap,e⟩
def dx(w:NI)(xs:List NJ)(l:List Qz):Prop:=
 xs.length=l.length*3/\∀i,i<l.length->∃v,(xs.drop (i*3)).take 3=[.string (l.getD i Qz.zero).name,.a (l.getD i Qz.zero).cost,v]/\dw w v (l.getD i Qz.zero).steps
theorem dx.nil(w:NI):dx w [] []:=⟨rfl,λi a=>by simp at a⟩
variable {xs : List NJ}
theorem dx.same{l:List Qz}(h:dx w xs l)(k:aC u w w')(a:176≠u)(b:9≠u)(h2:231≠u):dx w' xs l:=
 ⟨h.1,λi c=>by obtain⟨v,d,g⟩:=h.2 i c;exact⟨v,d,g.same k a b h2⟩⟩
theorem dx.snoc{l:List Qz}{d:Qz}(h:dx w xs l)(f:dw w v d.steps):dx w (xs++ [.string d.name,.a d.cost,v]) (l++ [d]):=by
 refine⟨by simp[h.1];omega,λi c=>?_⟩;rw[MU] at c;simp only[MX,List.length_nil] at c;by_cases e:i<l.length
 .have a:(l++ [d]).getD i Qz.zero=l.getD i Qz.zero:=by simp[List.getD,Ni e]
  have b:((xs++ [.string d.name,.a d.cost,v]).drop (i*3)).take 3= (xs.drop (i*3)).take 3:=by
   rw[List.drop_append_of_le_length (by rw[h.1];omega),List.take_append_of_le_length (by rw[List.length_drop,h.1];omega)]
  rw[a,b];exact h.2 i e
 .obtain rfl:i=l.length:=E5;have a:(l++ [d]).getD l.length Qz.zero=d:=I9;have b:((xs++ [.string d.name,.a d.cost,v]).drop (l.length*3)).take 3=[.string d.name,.a d.cost,v]:=by
   rw[<-h.1,List.drop_left]
   rfl
  rw[a,b];exact⟨v,rfl,f⟩
def sO(w:NI)(a:NH)(l:List Qz):Prop:=
 ∀i,i<l.length->∃b o sa sc,a=some ⟨b,o,none⟩/\b<w.heap.size/\w.rangeAt b (o+i*3) ((l.getD i Qz.zero).cells sa sc)/\j_ w sa (l.getD i Qz.zero).steps
theorem sO.kept{l:List Qz}(h:sO w a l)(k:K_ w w'):sO w' a l:=by
 intro i c;obtain⟨d,o,e,f,j,b,m,n⟩:=h i c;exact⟨d,o,e,f,j,Mf b k.size,k.range b m,n.kept k⟩
def bL(w:NI)(v:NJ)(l:List Qz):Prop:=
 ∃a cap,v= .slice a l.length cap/\l.length<=cap/\((a=none->cap=0)/\∀ad,a=some ad->ad.spot=none)/\∀i,i<l.length->∃b o cur fr u,a=some ⟨b,o,none⟩/\w.heap[b]? =some (Obj.cells cur 88 fr)/\
  w.rangeAt b (o+i*3) [.string (l.getD i Qz.zero).name,.a (l.getD i Qz.zero).cost,u]/\dw w u (l.getD i Qz.zero).steps
theorem bL.same{l:List Qz}(h:bL w v l)(k:aC u w w')(i:88≠u)(j:176≠u)(m:9≠u)(h2:231≠u):bL w' v l:=by
 obtain⟨a,n,p,q,r,g⟩:=h;refine⟨a,n,p,q,r,λs t=>?_⟩;obtain⟨b,o,c,d,x,y,e,z,A⟩:=g s t;have f:=k b c _ d i e;exact⟨b,o,c,d,x,y,f,λB C D=>by rw[Mt (w:=w) (f.trans e.symm)];exact z B C D,A.same k j m h2⟩
theorem bL.kept{l:List Qz}(h:bL w v l)(k:K_ w w'):bL w' v l:=h.same (u:=25) (.ax k) E8 E8 E8 E8
theorem bL.slice{l:List Qz}(h:bL w v l):∃a cap,v= .slice a l.length cap/\l.length<=cap/\((a=none->cap=0)/\∀ad,a=some ad->ad.spot=none):=let ⟨a,cap,e,h1,h2,_⟩:=h;⟨a,cap,e,h1,h2⟩
theorem bL.Jw{l:List Qz}(h:bL w (.slice a n cap) l):sO w a l:=by
 obtain⟨r,s,e,t,v,g⟩:=h;simp only[MW] at e;obtain⟨rfl,rfl,rfl⟩:=e;intro i c;obtain⟨b,o,x,y,u,d,f,j,k⟩:=g i c;obtain⟨m,p,rfl,_,q⟩:=k.EB;exact⟨b,o,m,p,d,aN f,j,q⟩
theorem bL.nodes{l:List Qz}(h:bL w (.slice a n cap) l):bT w a l:=by
 obtain⟨q,r,e,s,t,g⟩:=h;simp only[MW] at e;obtain⟨rfl,rfl,rfl⟩:=e;intro i d;obtain⟨b,o,v,x,u,f,j,k,c⟩:=g i d;obtain⟨m,p,rfl⟩:=c.slice;exact⟨b,o,_,f,aN j,k,m,p,rfl,c.steps⟩
theorem bL.gK{base:Nat}{l:List Qz}(a:w.ownsRow base 88 3 v l.length xs)(f:dx w xs l):bL w v l:=by
 rcases a.2 with⟨rfl,h⟩|⟨g,k,m,rfl,s,n,p,_,_,_⟩
 .exact⟨none,0,by rw[h],E5,⟨λ_=>rfl,λ_ e=>by cases e⟩,λi b=>E5⟩
 .refine⟨_,k,rfl,p,⟨λe=>by simp at e,λ_ e=>by cases e;rfl⟩,λi b=>?_⟩;obtain⟨u,e,q⟩:=f.2 i b;refine⟨g,0,m,_,u,rfl,n,λj x c=>?_,q⟩;have r:j<3:=by have:=(Mk.1 c).1;simpa using this
  have d:((xs.drop (i*3)).take 3)[j]? =some x:=by rw[e];exact c
  rw[List.getElem?_take,Nt r,List.getElem?_drop] at d;have:=a.cells (g:=g) rfl _ _ d;rw[MZ] at this;rw[MM] at this⊢;exact this
theorem bL.nil(w:NI):bL w M0 []:=⟨none,0,rfl,Me _,⟨λ_=>rfl,λ_ e=>by cases e⟩,λi b=>by simp at b⟩
structure Qz.TinyN (m:Nat) (d:Qz):Prop where
 name:d.name.size<=300
 cost: -1000<=d.cost/\d.cost<=1000
 steps:d.steps.length<=21
 each:∀s∈d.steps,s.TinyN m
theorem Qz.TinyN.fits{m:Nat}{d:Qz}(h:d.TinyN m)(a:m<=1000):d.Fits:=by
 have c:=h.name;have e:=h.steps;exact⟨F5,nG h.cost,F5,λs b=>(h.each s b).fits a⟩
theorem Qz.TinyN.mono{m:Nat}{d:Qz}(h:d.TinyN m)(b:m<=n):d.TinyN n:=⟨h.name,h.cost,h.steps,λs e=>(h.each s e).mono b⟩
def lm(lo:Nat)(v:NJ)(L:List Qz):Prop:=0<L.length->∀g n c,v= .slice (some g) n c->lo<=g.block
theorem lm.mono{lo a:Nat}{L:List Qz}(h:lm lo v L)(c:a<=lo):lm a v L:=λd g n f e=>Mh c (h d g n f e)
theorem lm.gK{base:Nat}{L:List Qz}(h:w.ownsRow base 88 3 v n xs):lm base v L:=λ_ g n c e=>(h.lt g.block (by rw[e];rfl)).1
def iU(M N:Nat)(w w':NI)(rb:Nat)(a:NH)(cap:Nat)(bs:List UInt8)(p t:Nat)(e:Ending):Prop:=
 ∃(v:NJ) (L:List Qz) (p':Nat),e= .returned (.agg #[v])/\p<=p'/\p'<=p+t/\L.length<=N/\(∀d∈L,d.TinyN M)/\bL w' v L/\Rd w' rb a cap bs p'/\Xj rb (rb+1) w w'/\lm w.heap.size v L
theorem Tryz.mO :(prog.info? 88).map (λi=>(i.zero,i.size,i.bytes))=some (some (.agg #[.string ⟨#[]⟩,.a 0,M0]),3,48):=F4
theorem Tryz.gV :(prog.info? 25).map (·.size)=some 1:=F4
structure fT (m:Nat) (w wr:NI) (rb wb:Nat) (a:NH) (cap:Nat) (bs:List UInt8) (p:Nat) (v:NJ) (L:List Qz) (xs:List NJ):Prop where
 rd:Rd wr rb a cap bs p
 rd0:∃p0,Rd w rb a cap bs p0
 wbl:w.heap.size<=wb
 kb:Xj rb (rb+1) w wr
 row:aD wr wb 25 1
 c0:wr.cell? ⟨wb,0,none⟩=some v
 own:wr.ownsRow w.heap.size 88 3 v L.length xs
 pack:dx wr xs L
 tiny:∀d∈L,d.TinyN m
variable {bs : List UInt8} {mN p rb wb : Nat} {wr : NI}
theorem fT.rbl{L:List Qz}(h:fT mN w wr rb wb a cap bs p v L xs):rb<w.heap.size:=let ⟨_,h0⟩:=h.rd0;h0.row.lt
theorem fT.drawn{c:Nat}{L:List Qz}(h:fT mN w wr rb wb a cap bs p v L xs)(e:Rd w' rb a cap bs c)(k:Xj rb (rb+1) wr w'):fT mN w w' rb wb a cap bs c v L xs:=by
 have d:=k.sameKind h.rd;have:=h.rbl;have:=h.wbl;exact⟨e,h.rd0,h.wbl,h.kb.trans k,h.row.but k E5,(k.cell h.row.lt E5).trans h.c0,aQ h.own d E8,h.pack.same d E8 E8 E8,h.tiny⟩
theorem fT.kept{L:List Qz}(h:fT mN w wr rb wb a cap bs p v L xs)(k:K_ wr w'):fT mN w w' rb wb a cap bs p v L xs:=h.drawn (h.rd.kept k) (.ax k)
variable {w1 : NI}
theorem fT.made{b:Nat}(d:Rd w rb a cap bs b)(h:Rd w1 rb a cap bs p)(k:Xj rb (rb+1) w w1):
  fT mN w (w1.alloc (.cells #[M0] 25)) rb w1.heap.size a cap bs p M0 [] []:=by
 have e:=X_ w1 #[M0] 25;have c:K_ w1 (w1.alloc (.cells #[M0] 25)):=ah _ _;exact⟨h.kept c,⟨b,d⟩,k.size,k.fQ c,aD.made w1 _ _,e 0 _ rfl,Nc _ _ _ _,dx.nil _,λs f=>by simp at f⟩
variable {w2 : NI}
theorem fT.fK{L:List Qz}(h:fT mN w wr rb wb a cap bs p v L xs)(f:K_ wr w1)(i:w1.grownBy w2 v.ownBlock):w2.cell? ⟨wb,0,none⟩=some v/\aD w2 wb 25 1:=by
 have b:=h.kept f;have j:aC 88 w1 w2:=aC.aI b.own i;obtain⟨c,d,k⟩:=b.row;have e:=j wb c _ _ E8 d;exact⟨by rw[Mt (w:=w1) (e.trans d.symm)];exact b.c0,c,e,k⟩
theorem fT.push{c u:NJ}{L:List Qz}{d:Qz}(h:fT mN w wr rb wb a cap bs p v L xs)(k:K_ wr w1)(n:dw w1 u d.steps)(q:d.TinyN mN)
 (r:w2.ownsRow w.heap.size 88 3 c (L.length+1) (xs++ [.string d.name,.a d.cost,u])) (f:w1.grownBy w2 v.ownBlock):fT mN w (w2.setCell ⟨wb,0,none⟩ c) rb wb a cap bs p c (L++ [d]) (xs++ [.string d.name,.a d.cost,u]):=by
 have b:=h.kept k;have i:aC 88 w1 w2:=aC.aI b.own f;have j:aD w2 wb 25 1:=(h.fK k f).2;have l:=j.same (o:=0) c;have m:Below w.heap.size w1 (w2.setCell ⟨wb,0,none⟩ c):=((Below.refl _ _).grown f b.kb.size (λs i=>(b.own.lt s i).1)).setCell h.wbl c;obtain⟨x,t⟩:=h.rd0;refine⟨b.rd.below t m b.kb.size,h.rd0,h.wbl,b.kb.below m,j.set _,aW j.row E5 _, ?_, ?_,λy e=>?_⟩
 .have:=aQ r l E8;simpa using this
 .exact ((b.pack.snoc n).same i E8 E8 E8).same l E8 E8 E8
 .simp only[Mo,Mm] at e;rcases e with e|rfl
  .exact h.tiny y e
  .exact q
theorem fT.web{L:List Qz}(h:fT mN w wr rb wb a cap bs p v L xs):bL wr v L:=bL.gK h.own h.pack
theorem nC(w:NI)(n:NG)(c:Int)(u:NJ):∀j x,([.string n,.a c,u]:List NJ)[j]? =some x->(w.alloc (.cells #[.string n,.a c,u] 88)).cell? ((⟨w.heap.size,0,none⟩:Addr).add j)=some x:=λj x a=>by
 rw[MZ];exact X_ w #[.string n,.a c,u] 88 j x a
theorem nL(n:NG)(c:Int)(a:NH)(m k:Nat):∀u∈([.string n,.a c,.slice a m k]:List NJ),u.oneCell'=true:=λu b=>by
 simp only[Na,Nb,or_false] at b;rcases b with rfl | rfl | rfl <;> rfl
theorem Ap.g(h:Ap w v L):dw w v L:=by
 obtain⟨base,e,b,c,d⟩:=h;exact (StW.gK b c d).g
variable {M : Nat}
theorem fT.ends{N:Nat}{b:NI}{d t:Nat}{L:List Qz}{f:NI}{e:Ending}(h:fT M f b rb wb a cap bs d v L xs){c:Nat}(m:aD b c 25 1)(n:w.heap.size<=c)(k0:K_ w f){q:Nat}(r:Rd w rb a cap bs q)
 (s:e= .returned (.agg #[v])) (x:p<=d) (h2:d<=p+t) (y:L.length<=N):iU M N w (b.setCell ⟨c,0,none⟩ v) rb a cap bs p t e:=by
 have z:=m.same (o:=0) v;have i:Below w.heap.size b (b.setCell ⟨c,0,none⟩ v):=(Below.refl _ _).setCell (p:=⟨c,0,none⟩) n _;have j:Xj rb (rb+1) w b:=⟨h.kb.os.trans k0.os,h.kb.tape.trans k0.tape,h.kb.output.trans k0.output,Mh k0.size h.kb.size,λk l A=>(h.kb.block k (Mf l k0.size) A).trans (k0.block k l)⟩;exact⟨v,L,d,s,x,h2,y,h.tiny,h.web.same z E8 E8 E8 E8,h.rd.below r i j.size,j.below i,(lm.gK h.own).mono k0.size⟩
theorem vM(w:NI)(j:Nat)(a:NH)(r:Nat)(q:List UInt8)(p i n:Nat)(hR:Rd w j a r q p)(hp:p<=800000)(hi:i<=100000)(hn:n<=100000)(D:q.length<=2000):
  Calls prog 161 #[.c j,.a (i:Int),.a (n:Int)] w λe w'=>qN w w' j a r q p 100 e:=by
 have k0:K_ w (w.alloc (.cells #[.a 0,M0] 73)):=ah _ _;have g6:Hid (Rd (w.alloc (.cells #[.a 0,M0] 73)) j a r q p):=hR.kept k0;have g7:Hid (aD (w.alloc (.cells #[.a 0,M0] 73)) w.heap.size 73 2):=aD.made w _ _;have o7:=hR.row.lt;have l1:=Kz hR;go_enter func161,ntmps161
 go_wp2_with fail
 refine (aM _ j a r q p _ 6 rfl g6.o E5 E5 D).mono ?_;rintro e w1 ⟨v1,rfl,l2,g8,g9⟩;have⟨h0,M⟩:=aH g8 g9;clear g8 g9 hR;have N:=Kz (ASt.made g6.o h0.o M.o (1+ (v1:Int)));go_wp2_with fail
 refine (aM _ j a r q (p+1) _ 10 rfl N.o.rd E5 E5 D).mono ?_;rintro e E ⟨v2,rfl,l3,h1,h2⟩;have c:=Kz (N.o.drawn h1 h2);have r2:=c.o.row.row.at (i:=0) E5;obtain⟨⟨_,q0⟩,h3⟩:=r2;have l4:=c.o.row.lt;clear h1 h2;go_upto_if 20 with fail
 go_cut [7] from 21 to 21 (λs7 F=>KT (w.alloc (.cells #[.a 0,M0] 73)) w1.heap.size j a r q p s7 F)
 case first=>
  by_cases T:v2=0
  .have e8:((v2:Int) == 0)=true:=by simp[T]
   go_wp2
   go_meet
   exact⟨20,rfl,E5,c.o.cost⟩
  .have e8:((v2:Int) == 0)=false:=by simpa using T
   go_wp2
   go_meet
   exact⟨_,rfl,E5,c.o⟩
 case rest=>
  obtain⟨cost,rfl,d4,t⟩:=hcut;have k:=Kz t;clear t N c h0 M l2 l3 q0 h3 l4;go_wp2_with fail
  refine (aM _ j a r q (p+2) _ 4 rfl k.o.rd E5 E5 D).mono ?_;rintro e w4 ⟨v4,rfl,l5,b0,b1⟩;have B:=Kz (k.o.drawn b0 b1);clear b0 b1 k;go_upto_region 5 with fail
  go_cut [31] from 25 to 30 (λl6 F=>∃(G:Bool) (p':Nat),l6= .bool G/\p+3<=p'/\p'<=p+4/\ASt (w.alloc (.cells #[.a 0,M0] 73)) F j w1.heap.size a r q p' cost M0 [] [])
  case first=>
   by_cases T:i=0
   .have e8:((i:Int) == 0)=true:=by simp[T]
    clear T;go_wp2_with fail
    refine (aM _ j a r q (p+3) _ 3 rfl B.o.rd E5 E5 D).mono ?_;rintro e w5 ⟨v5,rfl,o8,h4,h5⟩;have h:=Kz (B.o.drawn h4 h5);clear h4 h5;go_wp2
    go_meet
    exact⟨_,p+4,rfl,E5,E5,h.o⟩
   .have e8:((i:Int) == 0)=false:=by simpa using T
    go_wp2
    go_meet
    exact⟨_,p+3,rfl,E5,E5,B.o⟩
  case rest=>
   obtain⟨G,p5,rfl,l7,l8,t⟩:=hcut;have h:=Kz t;clear t B;go_upto_if 31 with fail
   go_cut [8] from 25 to 30 (λs8 F=>LP (w.alloc (.cells #[.a 0,M0] 73)) w1.heap.size j a r q p s8 F)
   case first=>
    cases G
    .go_wp2
     go_meet
     exact⟨v4,cost,p5,rfl,E5,d4,E5,E5,h.o⟩
    .go_wp2
     go_meet
     exact⟨0,cost,p5,rfl,E5,d4,E5,E5,h.o⟩
   case rest=>
    clear l7 l8 h d4 l5;obtain⟨U,cost,l9,rfl,o9,d4,m0,p0,t⟩:=hcut;have P:=Kz t;clear t;go_wp2
    go_loopg [9] U (λg x wr=>∃(l:Nat) (p':Nat) (h6:NJ) (L:List Xq) (xs:List NJ),x= .a (l:Int)/\l+g=U/\L.length=l/\p<=p'/\p'<=p+4+20*l/\ASt (w.alloc (.cells #[.a 0,M0] 73)) wr j w1.heap.size a r q p' cost h6 L xs)
    case atStart=>exact⟨0,l9,_,[],[],rfl,E5,rfl,m0,E5,P.o⟩
    case round=>
     clear P;obtain⟨l,p7,h6,L,xs,rfl,hk,hL,p1,p2,t⟩:=hrel;obtain⟨z,rfl⟩:=aj wr;obtain⟨gO,rfl⟩:=aj gk;have⟨HO,e9⟩:=aH t hL;clear t hL;by_cases m1:(l:Int)<1+ (U:Int)-1
     .have f0:=Kz (SSt.made HO.o.rd (els:=(l:Int)+1) (fall:= -1) E5 E5);have zO:j<z.heap.size:=HO.o.rd.row.lt;go_wp2_with fail
      refine (aM _ j a r q p7 _ 4 rfl f0.o.rd E5 E5 D).mono ?_;rintro e w8 ⟨a6,rfl,hq,h7,h8⟩;have b2:=Kz (f0.o.drawn h7 h8);clear h7 h8;go_wp2
      go_loopg [11] a6 (λg x wr=>∃(Q:NJ) (s:Xq) (p':Nat),x= .a (g:Int)/\g<=a6/\p<=p'/\p'+2*g<=p7+1+2*a6/\s.asks.length+g<=a6/\s.cases=[]/\SSt z wr j z.heap.size a r q p' Q M0 s)
      case atStart=>exact⟨_,_,p7+1,rfl,Me _,E5,E5,E9,rfl,b2.o⟩
      case round=>
       clear f0 b2;obtain⟨Q,s,p8,rfl,h9,i0,i1,d5,b3,t⟩:=hrel;have⟨v,a0⟩:=aH t b3;clear t b3;by_cases T:gk=0
       .have d6:¬(0:Int)<(gk:Int):=E5;obtain⟨R,S,rfl⟩:=ay v.o.asks;obtain⟨wI,rfl⟩:=aj wr;have y0:=v.o.box.c0;have yz:=v.o.box.row.lt;have f2:s.asks.length<=20:=v.o.tiny.asks;obtain⟨J,hm⟩:=aj s.asks.length;rw[<-hm] at y0 d5 f2;have HM:=Kz hm;clear hm;go_upto_if 68 with fail
        go_cut [10,11] from 32 to 116 (λb4 _ F=>∃(A:Xq) (Q:NJ) (p':Nat),b4= .c z.heap.size/\p<=p'/\p'<=p7+8/\A.cases=[]/\SSt z F j z.heap.size a r q p' Q M0 A)
        case first=>
         by_cases p3:(0:Int)<(J:Int)
         .go_wp2_with fail
          refine (og _ j a r q p8 J v.o.rd E5 E5 D).mono ?_;rintro e f ⟨v9,rfl,p4,b5,b6⟩;have c:=Kz (v.o.drawn b5 b6);have z2:=c.o.box.row.lt;obtain⟨⟨_,p6⟩,f1⟩:=c.o.box.cell (o:=1) E5;clear b5 b6;go_wp2
          go_meet
          exact⟨{s with on:=(v9:Int)},_,p8+1,rfl,E5,E5,a0.o,c.o.on (x:=(v9:Int)) E5⟩
         .go_wp2
          go_meet
          exact⟨s,_,p8,rfl,E5,E5,a0.o,v.o⟩
        case rest=>
         clear v a0 y0 yz d5 f2 HM i0 i1 T d6 h9;obtain⟨s,Q,p9,rfl,m2,m3,b3,t⟩:=hcut;have⟨v,a0⟩:=aH t b3;clear t b3;go_wp2_with fail
         refine (aM _ j a r q p9 _ 3 rfl v.o.rd E5 E5 D).mono ?_;rintro e q1 ⟨q2,rfl,q3,i2,i3⟩;have b2:=Kz (v.o.drawn i2 i3);clear i2 i3 v;go_wp2
         go_loopg [13] q2 (λg x wr=>∃(vc:NJ) (A:Xq) (p':Nat),x= .a (g:Int)/\g<=q2/\p<=p'/\p'+2*g<=p9+1+2*q2/\A.cases.length+g<=q2/\SSt z wr j z.heap.size a r q p' Q vc A)
         case atStart=>exact⟨_,s,p9+1,rfl,Me _,E5,E5,by rw[a0.o];simp,b2.o⟩
         case round=>
          clear b2 a0;obtain⟨vc,A,a2,rfl,h9,q5,q6,d5,t⟩:=hrel;have v:=Kz t;clear t;by_cases T:gk=0
          .have d6:¬(0:Int)<(gk:Int):=E5;obtain⟨ac,cc,rfl⟩:=ay v.o.cases;obtain⟨wJ,rfl⟩:=aj wr;have q7:A.cases.length<=20:=v.o.tiny.cases;go_wp2_with fail
           refine (aM _ j a r q a2 _ 3 rfl v.o.rd E5 E5 D).mono ?_;rintro e m4 ⟨b7,rfl,i4,b8,b9⟩;have c:=Kz (v.o.drawn b8 b9);have z2:=c.o.box.row.lt;obtain⟨⟨_,q4⟩,f4⟩:=c.o.box.cell (o:=4) E5;clear b8 b9 v;go_upto_if 103 with fail
           go_cut [10,13] from 32 to 116 (λb4 _ F=>∃(s'':Xq),b4= .c z.heap.size/\SSt z F j z.heap.size a r q (a2+1) Q (.slice ac A.cases.length cc) s'')
           case first=>
            by_cases d7:b7=0
            .have m5:((b7:Int) == 0)=true:=by simp[d7]
             clear d7;go_wp2
             go_meet
             exact⟨_,rfl,c.o.fall (x:=(l:Int)+1) E5⟩
            .have m5:((b7:Int) == 0)=false:=by simpa using d7
             clear d7;go_wp2
             go_meet
             exact⟨A,rfl,c.o⟩
           case rest=>
            clear c q4 f4 z2 i4;obtain⟨s3,rfl,t⟩:=hcut;have k:=Kz t;clear t;go_wp2_with fail
            refine (aM _ j a r q (a2+1) _ 16 rfl k.o.rd E5 E5 D).mono ?_;rintro e m6 ⟨f3,rfl,m7,i5,i6⟩;have B:=Kz (k.o.drawn i5 i6);have z2:=B.o.box.row.lt;obtain⟨⟨_,q4⟩,f4⟩:=B.o.box.cell (o:=3) E5;clear i5 i6 k;go_upto_if 109 with fail
            go_cut [10] from 32 to 116 (λb4 F=>∃(s'':Xq),b4= .c z.heap.size/\SSt z F j z.heap.size a r q (a2+2) Q (.slice ac A.cases.length cc) s'')
            case first=>
             by_cases d8:f3=0
             .have i7:((f3:Int) == 0)=true:=by simp[d8]
              clear d8;go_wp2
              go_meet
              exact⟨_,rfl,B.o.els (x:=0) E5⟩
             .have i7:((f3:Int) == 0)=false:=by simpa using d8
              clear d8;go_wp2
              go_meet
              exact⟨s3,rfl,B.o⟩
            case rest=>
             clear B q4 f4 z2 m7;obtain⟨m,rfl,t⟩:=hcut;have h:=Kz t;clear t;obtain⟨d9,e0,rfl⟩:=ay HO.o.own;have HA:=Kz (HO.o.drawn h.o.rd h.o.kb);obtain⟨aa,ca,a7,a8,rfl,i8,hT⟩:=h.o.cells;rw[i8] at h;have HT:=Kz hT;clear hT i8;have c0:=h.o.box.c0;have q8:=h.o.box.c1;have q9:=h.o.box.c2;have c3:=h.o.box.c3;have r0:=h.o.box.c4;have r1:=h.o.box.c5;have r3:=h.o.box.c6;have r4:=h.o.box.c7;have cz:=h.o.box.row.lt;have a1:=HA.o.c1;have az:=HA.o.row.lt;have m8:L.length<=3:=by have:=e9.o;omega
             have V:K_ wc (wc.alloc (.cells #[.slice aa m.asks.length ca,.a m.on,.slice a7 m.cases.length a8,.a m.els,.a m.fall,.bool m.fin,.bool m.bad,.string m.give] 176)):=ah _ _;have M:=Kz V;have f5:=Kz (HA.o.kept V).own;have e1:=(HA.o.kept V).kb.size;have c1:∀C u,(m.cells aa ca a7 a8)[C]? =some u->(wc.alloc (.cells #[.slice aa m.asks.length ca,.a m.on,.slice a7 m.cases.length a8,.a m.els,.a m.fall,.bool m.fin,.bool m.bad,.string m.give] 176)).cell? ((⟨wc.heap.size,0,none⟩:Addr).add C)=some u:=λC u y=>by rw[MZ];exact X_ wc #[.slice aa m.asks.length ca,.a m.on,.slice a7 m.cases.length a8,.a m.els,.a m.fall,.bool m.fin,.bool m.bad,.string m.give] 176 C u y
             have⟨m9,n0⟩:=aH c1 e1;obtain⟨ic,c2,c4,c5,c6⟩:=aP Tryz.jX;clear V c1 e1;go_wp2_with (at_builtin;refine wpList_append_own _ rfl (.tmp 112) (.tmp 114) 71 rfl (w.alloc (.cells #[.a 0,M0] 73)).heap.size 176 ic _ 8 96 underlying71 c2 c4 c5 c6 rfl E8 (.slice d9 L.length e0) L.length xs rfl f5.o ⟨wc.heap.size,0,none⟩ 1 1 (m.cells aa ca a7 a8) rfl rfl m9.o (jd m aa ca a7 a8) F5 E5 n0.o ?_;intro W E H I _;have a3:=HA.o.fK M.o I;have z2:=a3.2.lt;obtain⟨⟨_,y2⟩,n1⟩:=a3.2.row.at (i:=1) E5;have f6:=Kz H;obtain⟨R,S,rfl⟩:=ay H;have f7:=Kz I;clear H I a3)
             go_roundg (gO-1)
             case measure=>omega
             case rel=>exact⟨l+1,a2+2,_,L++ [m],_,F3,E5,by rw[MU,e9.o];rfl,E5,E5,HA.o.push M.o HT.o h.o.tiny (h.o.nV rfl rfl) f6.o f7.o⟩
          .have d6:(0:Int)<(gk:Int):=E5;obtain⟨ac,cc,rfl⟩:=ay v.o.cases;have r5:A.cases.length<=20:=v.o.tiny.cases;have N:=Kz (v.o.kept (aV wr));have y2:=N.o.box.c2;have r6:=Kz v.o;clear v;obtain⟨J,hm⟩:∃J:Nat,J=U-l:=⟨_,rfl⟩;have r7:J<=3:=E5;have r8:IntKind.i64.wrap ((l:Int)+1)= (l:Int)+1:=G6;have i7:IntKind.i64.wrap (1+ (U:Int)-(l:Int))= (J:Int)+1:=G6;have r9:IntKind.i64.wrap (J:Int)= (J:Int):=G6;clear hm;go_upto_region 22 with fail
           refine Qk.region F4 (λw'=>w'.cell? ⟨z.heap.size,2,none⟩=some (.slice ac A.cases.length cc)) 20 y2 (λb=>?_);refine ae 0 b ?_;refine ae 1 b ?_;refine ae 2 b ?_;refine ae 7 b ?_;refine bY 8 (.a ((l:Int)+1)) b ?_ ?_
           .intro u y;try dsimp only at y
            go_simp
            try with_reducible rfl
           try simp only[upP]
           refine ae 9 b ?_;refine ae 10 b ?_;refine ae 11 b ?_;refine bY 12 (.a ((J:Int)+1)) b ?_ ?_
           .intro u y;try dsimp only at y
            go_simp
            try with_reducible rfl
           try simp only[upP]
           refine bY 13 (.a (J:Int)) b ?_ ?_
           .intro u y;try dsimp only at y
            go_simp
            try with_reducible rfl
           try simp only[upP]
           refine aG 3 (λK d=>?_);go_simp
           go_at_call 19
           refine (aM _ j a r q a2 _ 3 rfl N.o.rd E5 E5 D).mono ?_;rintro e m4 ⟨b7,rfl,i4,b8,b9⟩;have c:=Kz (N.o.drawn b8 b9);clear b8 b9;dsimp only;refine af d (λ_=>c.o.box.c2) ?_;clear d K b;have b:=c.o.box.c2;refine aG 4 (λK d=>?_);go_simp
           go_at_call 191
           refine (tC _ b7 E5).mono ?_;rintro e m6 ⟨f8,rfl,ht,i9⟩;have k:=Kz (c.o.kept i9);clear i9;dsimp only;refine af d (λ_=>k.o.box.c2) ?_;clear d K b;have b:=k.o.box.c2;obtain⟨t1,j0⟩:∃t1:NG,(⟨#[118]⟩:NG)++f8=t1:=⟨_,rfl⟩;have n2:t1.size<=2:=by rw[<-j0,ByteArray.size_append];show 1+f8.size<=2;omega
           have n3:¬9223372036854775807<1+f8.size:=E5;refine bY 5 (.string t1) b ?_ ?_
           .intro u y;try dsimp only at y
            go_simp
            try with_reducible rfl
           try simp only[upP]
           obtain⟨tx,j1⟩:∃tx:NG,t1++ (⟨#[40,41]⟩:NG)=tx:=⟨_,rfl⟩;have n4:tx.size<=300:=by rw[<-j1,ByteArray.size_append];show t1.size+2<=300;omega
           have e2:¬9223372036854775807<t1.size+2:=E5;refine bY 6 (.string tx) b ?_ ?_
           .intro u y;try dsimp only at y
            go_simp
            try with_reducible rfl
           try simp only[upP]
           clear j0 j1 n3 e2 n2 ht;refine aG 14 (λK d=>?_);go_simp
           go_at_call 19
           refine (aM _ j a r q (a2+1) _ J rfl k.o.rd E5 E5 D).mono ?_;rintro e e3 ⟨X,rfl,s0,j2,j3⟩;have B:=Kz (k.o.drawn j2 j3);clear j2 j3;dsimp only;refine af d (λ_=>B.o.box.c2) ?_;clear d K b;have b:=B.o.box.c2;have s1:IntKind.i64.wrap ((l:Int)+1+ (X:Int))= (l:Int)+1+ (X:Int):=G6;refine bY 15 (.a ((l:Int)+1+ (X:Int))) b ?_ ?_
           .intro u y;try dsimp only at y
            go_simp
            try with_reducible rfl
           try simp only[upP]
           refine ae 16 b ?_;refine ai 17 (λK d=>?_);go_simp
           have a4:K_ e3 (e3.alloc (.cells #[.string tx,.a ((l:Int)+1+ (X:Int))] 231)):=ah _ _;have h:=Kz (B.o.kept a4);have c7:=Kz a4;refine af d (λ_=>h.o.box.c2) ?_;clear d K b a4;obtain⟨ic,c2,c4,c5,c6⟩:=aP Tryz.pU;refine ai 18 (λK d=>?_);refine step_append_lies _ rfl (.tmp 82) (.tmp 98) 174 rfl z.heap.size 231 ic _ 2 24 underlying174 c2 c4 c5 c6 rfl E8 (.slice ac A.cases.length cc) A.cases.length (bi A.cases) F8 h.o.cases ⟨e3.heap.size,0,none⟩ 1 1 [.string tx,.a ((l:Int)+1+ (X:Int))] F8 rfl (λC u y=>by rw[MZ];exact X_ e3 #[.string tx,.a ((l:Int)+1+ (X:Int))] 231 C u (by simpa using y)) (λu y=>by simp at y;rcases y with rfl | rfl <;> rfl) E5 F5 E5 h.o.kb.size _ rfl ?_;intro g e4 s2 c8 a5 f9 g0;have Y:=Kz (B.o.A_ c7.o a5);have P:=Kz (B.o.su (x:=⟨tx,(l:Int)+1+ (X:Int)⟩) c7.o c8 a5 E5 ⟨n4,by show -1000<=(l:Int)+1+ (X:Int);omega,by show (l:Int)+1+ (X:Int)<=1000;omega⟩);have z6:=Y.o.row.lt;have y6:=Y.o.c2;obtain⟨_,e2⟩:=Y.o.cell (o:=2) E5;clear c8 a5 f9 g0;refine af d (λ_=>Y.o.c2) ?_;clear d K;have b:=Y.o.c2;refine ae 19 b ?_;refine ai 20 (λK d=>?_);go_simp
           refine af d (λg2=>Nv rfl g2) ?_;clear d K;refine aF ?_;go_wp2
           go_roundg (gk-1)
           case measure=>omega
           case rel=>exact⟨_,_,a2+2,F3,E5,E5,E5,by show (A.cases++ [_]).length+ (gk-1)<=q2;rw[MU];show A.cases.length+1+ (gk-1)<=q2;omega,P.o⟩
       .have d6:(0:Int)<(gk:Int):=E5;go_wp2_with fail
        refine (JK _ j a r q p8 i n v.o.rd E5 hi hn D).mono ?_;rintro e f ⟨x,p9,rfl,hx,m2,m3,b5,b6⟩;have c:=Kz (v.o.drawn b5 b6);have y0:=c.o.box.c0;have yz:=c.o.box.row.lt;clear b5 b6 v;go_upto_region 15 with fail
        go_cut [58] from 43 to 57 (λn5 F=>∃G:Bool,n5= .bool G/\K_ f F)
        case first=>
         obtain⟨ia,a9,c9,d0,d1⟩:=aP Tryz.gJ;have e5:(f.alloc (.cells #[] 9)).ownsRow f.heap.size 9 1 (.b f.heap.size 0 0) 0 []:=ML f #[] 0 (Me _) (Mg _) rfl;have e6:=Kz e5;have kA:K_ f (f.alloc (.cells #[] 9)):=ah _ _;have d2:=Kz kA;have n6:s.asks.length<=20:=c.o.tiny.asks;clear e5 kA;have fin:∀(Z E:NI) (v1 W:NJ) (U:Nat) (j4:List NJ),K_ f Z->Z.ownsRow f.heap.size 9 1 v1 U j4->Z.grownBy E v1.ownBlock->E.ownsRow f.heap.size 9 1 W (s.asks.length+1) ((s.asks++ [x]).map Value.string)->∃R S,W= .slice R (s.asks.length+1) S/\K_ f E/\Calls prog 66 #[.slice R ((s.asks.length+1:Nat):Nat) S] E λe w'=>(∃G:Bool,e= .returned (.bool G))/\K_ E w':=by
          intro Z E v1 W U j4 kA e5 hg hO;obtain⟨R,S,e,_,hT⟩:=dh hO;have g3:(s.asks++ [x]).length=s.asks.length+1:=E9;rw[g3] at e;refine⟨R,S,e, ?_,CL E R S _ _ g3 (by rw[g3];omega) (λn7 hy=>?_) hT.strs⟩
          .exact Below.grown kA hg kA.size (λl hk=>(e5.lt l hk).1)
          .simp only[Mo,Mm] at hy;rcases hy with hy|rfl
           .have:=c.o.tiny.eO n7 hy;omega
           .omega
         have j5:=Kz fin;clear fin;rcases c.o.asks.2 with⟨ev,j6⟩|⟨g,cp,s4,ev,n8,j7,s5,_,_,_⟩
         .subst ev;have n9:Hid (s.asks=[]):=Nz j6;have j8:=Kz (ak e6.o ((K_.refl _).alloc (.cells #[.string x] 9)));have j9:=Kz (d2.o.alloc (.cells #[.string x] 9));have k1:∀C u,([.string x]:List NJ)[C]? =some u->((f.alloc (.cells #[] 9)).alloc (.cells #[.string x] 9)).cell? ((⟨f.heap.size+1,0,none⟩:Addr).add C)=some u:=by
           have:=kU (f.alloc (.cells #[] 9)) x;rw[MS] at this;exact this
          have o0:=Kz k1;have g4:f.heap.size<=((f.alloc (.cells #[] 9)).alloc (.cells #[.string x] 9)).heap.size:=j9.o.size;clear j6 k1 d5 n6;go_wp2_with (first | (at_builtin;refine wpList_append_own_none _ rfl (.tmp 51) (.tmp 53) 26 rfl f.heap.size 9 ia 1 underlying26 a9 (.b f.heap.size 0 0) 0 [] rfl e6.o rfl ?_) | (at_builtin;refine wpList_append_own _ rfl (.tmp 54) (.tmp 56) 26 rfl f.heap.size 9 ia _ 1 16 underlying26 a9 c9 d0 d1 rfl E8 (.b f.heap.size 0 0) 0 [] rfl j8.o ⟨f.heap.size+1,0,none⟩ 1 1 [.string x] rfl rfl o0.o (ko x) F5 E5 g4 ?_;intro W E H I _;obtain⟨R,S,rfl,k2,hC⟩:=j5.o _ E _ W 0 [] j9.o j8.o I (by rw[n9.o];exact H);have HC:=Kz hC;have g5:=Kz k2;clear H I hC k2))
          refine HC.o.mono ?_;rintro e w3 ⟨⟨G,rfl⟩,k3⟩;go_wp2
          go_meet
          exact⟨G,rfl,g5.o.trans k3⟩
         .subst ev;have c1:∀C u,(s.asks.map Value.string)[C]? =some u->(f.alloc (.cells #[] 9)).cell? ((⟨g,0,none⟩:Addr).add C)=some u:=λC u y=>(ak c.o.asks d2.o).cells (g:=g) rfl C u y
          have o1:=Kz c1;have g4:f.heap.size<=(f.alloc (.cells #[] 9)).heap.size:=d2.o.size;have s6:=aN j7;clear c1 j7 n8;go_wp2_with (first | (at_builtin;refine wpList_append_own _ rfl (.tmp 51) (.tmp 53) 26 rfl f.heap.size 9 ia _ 1 16 underlying26 a9 c9 d0 d1 rfl E8 (.b f.heap.size 0 0) 0 [] rfl e6.o ⟨g,0,none⟩ s.asks.length cp (s.asks.map Value.string) rfl E9 o1.o (wm _) F5 E5 g4 ?_;intro v1 Z e7 k4 _;rw[MM,List.nil_append] at e7;obtain⟨o2,o3,rfl⟩:=ay e7;have M:=Kz (Below.grown d2.o k4 d2.o.size (λl hk=>(e6.o.lt l hk).1));have k5:=Kz (ak e7 ((K_.refl Z).alloc (.cells #[.string x] 9)));have o4:f.heap.size<=(Z.alloc (.cells #[.string x] 9)).heap.size:=(K_.alloc (a:=f) M.o (.cells #[.string x] 9)).size;clear e7 k4) | (at_builtin;refine wpList_append_own _ rfl (.tmp 54) (.tmp 56) 26 rfl f.heap.size 9 ia _ 1 16 underlying26 a9 c9 d0 d1 rfl E8 (.slice o2 s.asks.length o3) s.asks.length (s.asks.map Value.string) rfl k5.o ⟨Z.heap.size,0,none⟩ 1 1 [.string x] rfl rfl (kU Z x) (ko x) F5 E5 o4 ?_;intro W E H I _;obtain⟨R,S,rfl,k2,hC⟩:=j5.o _ E _ W _ _ (K_.alloc (a:=f) M.o (.cells #[.string x] 9)) k5.o I (by rw[Ny];exact H);have HC:=Kz hC;have g5:=Kz k2;clear H I hC k2))
          refine HC.o.mono ?_;rintro e w3 ⟨⟨G,rfl⟩,k3⟩;go_wp2
          go_meet
          exact⟨G,rfl,g5.o.trans k3⟩
        case rest=>
         obtain⟨G,rfl,k6⟩:=hcut;have k:=Kz (c.o.kept k6);clear c y0 yz k6;have y0:=k.o.box.c0;have yz:=k.o.box.row.lt;obtain⟨_,h3⟩:=k.o.box.cell (o:=0) E5;cases G
         .go_wp2
          go_roundg (gk-1)
          case measure=>omega
          case rel=>exact⟨Q,s,p9,F3,E5,E5,E5,E5,a0.o,k.o⟩
         .obtain⟨ia,a9,c9,d0,d1⟩:=aP Tryz.gJ;have V:K_ wc (wc.alloc (.cells #[.string x] 9)):=ah _ _;have M:=Kz V;have f5:=Kz (k.o.kept V).asks;have e1:z.heap.size<=(wc.alloc (.cells #[.string x] 9)).heap.size:=(k.o.kept V).kb.size;have f2:s.asks.length<=20:=k.o.tiny.asks;clear V;go_wp2_with (at_builtin;refine wpList_append_own _ rfl (.tmp 60) (.tmp 62) 26 rfl z.heap.size 9 ia _ 1 16 underlying26 a9 c9 d0 d1 rfl E8 Q s.asks.length (s.asks.map Value.string) rfl f5.o ⟨wc.heap.size,0,none⟩ 1 1 [.string x] rfl rfl (kU wc x) (ko x) F5 E5 e1 ?_;intro W E H I _;have a3:=k.o.t_ M.o I;have y2:=a3.c0;have z2:=a3.row.lt;obtain⟨_,n1⟩:=a3.cell (o:=0) E5;have f6:=Kz H;obtain⟨R,S,rfl⟩:=ay H;have f7:=Kz I;clear H I a3)
          go_roundg (gk-1)
          case measure=>omega
          case rel=>exact⟨_,{s with asks:=s.asks++ [x]},p9,F3,E5,E5,E5,by show (s.asks++ [x]).length+ (gk-1)<=a6;rw[MU];show s.asks.length+1+ (gk-1)<=a6;omega,a0.o,k.o.pq M.o f6.o f7.o E5 E5⟩
     .have s9:l=U:=E5;clear m1;obtain⟨d9,e0,rfl⟩:=ay HO.o.own;have N:=Kz (HO.o.kept (aV z));have t0:Hid (aD z w.heap.size 73 2):=g7.o.but HO.o.kb E5;have y1:=N.o.c1;have m8:L.length<=3:=by have:=e9.o;omega
      have t2:=Kz HO.o;go_upto_region 28 with fail
      refine Qk.region F4 (λw'=>w'.cell? ⟨w1.heap.size,1,none⟩=some (.slice d9 L.length e0)) 11 y1 (λb=>?_);refine ae 0 b ?_;refine ae 1 b ?_;refine ae 2 b ?_;refine ae 5 b ?_;refine aG 3 (λK d=>?_);go_simp
      go_at_call 19
      refine (aM _ j a r q p7 _ 8 rfl N.o.rd E5 E5 D).mono ?_;rintro e w3 ⟨v3,rfl,o5,k7,k8⟩;have c:=Kz (N.o.drawn k7 k8);clear k7 k8;dsimp only;refine af d (λ_=>c.o.c1) ?_;clear d K b;have b:=c.o.c1;obtain⟨O,o6⟩:∃O:Bool,((v3:Int) == 0)=O:=⟨_,rfl⟩;refine bY 4 (.bool O) b ?_ ?_
      .intro u y;try dsimp only at y
       go_simp
       try with_reducible rfl
      try simp only[upP]
      clear o6 o5;refine aG 6 (λK d=>?_);go_simp
      go_at_call 192
      refine (IP _ j a r q (p7+1) c.o.rd E5 D).mono ?_;rintro e w4 ⟨gv,p8,rfl,t3,i0,i1,b0,b1⟩;have k:=Kz (c.o.drawn b0 b1);clear b0 b1;dsimp only;refine af d (λ_=>k.o.c1) ?_;clear d K b;have b:=k.o.c1;refine ae 7 b ?_;refine ai 8 (λK d=>?_);go_simp
      have a4:K_ w4 (w4.alloc (.cells #[M0,.a 0,M0,.a 0,.a 0,.bool true,.bool O,.string gv] 176)):=ah _ _;have h:=Kz (k.o.kept a4);have c7:=Kz a4;refine af d (λ_=>h.o.c1) ?_;clear d K b a4;obtain⟨ic,c2,c4,c5,c6⟩:=aP Tryz.jX;refine ai 9 (λK d=>?_);refine step_append_lies _ rfl (.tmp 118) (.tmp 125) 71 rfl (w.alloc (.cells #[.a 0,M0] 73)).heap.size 176 ic _ 8 96 underlying71 c2 c4 c5 c6 rfl E8 (.slice d9 L.length e0) L.length xs F8 h.o.own ⟨w4.heap.size,0,none⟩ 1 1 [M0,.a 0,M0,.a 0,.a 0,.bool true,.bool O,.string gv] F8 rfl (λC u y=>by rw[MZ];exact X_ w4 #[M0,.a 0,M0,.a 0,.a 0,.bool true,.bool O,.string gv] 176 C u (by simpa using y)) (jd ⟨[],0,[],0,0,true,O,gv⟩ none 0 none 0) E5 F5 E5 h.o.kb.size _ rfl ?_;intro g e4 w5 c8 a5 f9 g0;have Y:=Kz (k.o.fK c7.o a5);have k9:lw w4 9 231 [M0,.a 0,M0,.a 0,.a 0,.bool true,.bool O,.string gv] ⟨[],0,[],0,0,true,O,gv⟩:=⟨none,0,none,0,rfl,.inl rfl,.inl rfl,Me _⟩;have l0:Xq.Tiny ⟨[],0,[],0,0,true,O,gv⟩:=⟨E9,λx hx=>by simp at hx,⟨I1,I4⟩,E9,λx hx=>by simp at hx,nG ⟨I1,I4⟩,⟨I1,I4⟩,by show gv.size<=300;omega⟩;have P:=Kz (k.o.push c7.o k9 l0 (jU (s:=⟨[],0,[],0,0,true,O,gv⟩) (λ_=>⟨rfl,rfl⟩) (λ_=>⟨rfl,rfl⟩)) c8 a5);obtain⟨⟨_,y6⟩,e2⟩:=Y.o.2.row.at (i:=1) E5;have z6:=Y.o.2.lt;have y7:=Y.o.1
      skip
      clear c8 a5 f9 g0 k9 l0;refine af d (λ_=>y7) ?_;clear d K;have b:=y7;refine ae 10 b ?_;refine ai 11 (λK d=>?_);go_simp
      refine af d (λg2=>Nv rfl g2) ?_;clear d K;refine aF ?_;have t4:=P.o.c0;have t5:=P.o.c1;have oz:=P.o.row.lt;have d3:=Kz (g7.o.but P.o.kb E5);obtain⟨⟨_,t6⟩,t7⟩:=d3.o.row.at (i:=0) E5;obtain⟨⟨_,t8⟩,g1⟩:=d3.o.row.at (i:=1) E5;have xz:=d3.o.lt;clear b y6 e2 z6 y7;go_wp2
      have hR:=Mi (w5.setCell ⟨w1.heap.size,1,none⟩ (.b g (L.length+1) e4)) w.heap.size 0 [.a cost,.b g (L.length+1) e4] (d3.o.row.there (o:=0) (m:=2) (Me _));refine Zx [.a cost,.b g (L.length+1) e4] _ results161 rfl hR underlying73 rfl Tryz.iE rfl ?_;exact P.o.ends d3.o k0 l1.o rfl E5 E5 (by rw[MU];show 1<=L.length+1;omega) (by rw[MU];show L.length+1<=20;omega) E5
theorem xX(w:NI)(b:Nat)(a:NH)(d:Nat)(c:List UInt8)(p i n:Nat)(f h:Int)(j:f= (i:Int))(k:h= (n:Int))(l:Rd w b a d c p)(m:p<=800000)(hi:i<=100000)(q:n<=100000)(r:c.length<=2000):
  Calls prog 161 #[.c b,.a f,.a h] w λe w'=>qN w w' b a d c p 100 e:=by
 rw[j,k];exact vM w b a d c p i n l m hi q r
theorem jq(w:NI)(i:Nat)(a:Int)(b:a= (i:Int))(hi:i<=100000):
  Calls prog 111 #[.a a] w λe w'=>Bz w w' e:=by
 rw[b];exact mH w i hi
def pM(F t M N B:Nat):Prop:=∀(w:NI) (rb:Nat) (a:NH) (cap:Nat) (bs:List UInt8) (p:Nat),Rd w rb a cap bs p->p<=B->bs.length<=2000->
 Calls prog F #[.c rb] w λe w'=>iU M N w w' rb a cap bs p t e
theorem iU.via{N:Nat}{f:NI}{d t t':Nat}{e:Ending}(y:iU M N w1 w2 rb a cap bs d t e)(c:Xj rb (rb+1) f w1)(k0:K_ w f)(J:p<=d)(h2:d+t<=p+t')(z:Rd w rb a cap bs p){b:Nat}(A:w.heap.size<=b)(B:aD w1 b 25 1)(K:b≠rb):
  ∃v,e= .returned (.agg #[v])/\aD w2 b 25 1/\(∃h vn i,v= .slice h vn i)/\iU M N w (w2.setCell ⟨b,0,none⟩ v) rb a cap bs p t' e:=by
 obtain⟨v,L,C,j,O,P,D,E,k,F,l,G⟩:=y;have m:aD w2 b 25 1:=B.but l E5;have H:=m.same (o:=0) v;have n:Below w.heap.size w2 (w2.setCell ⟨b,0,none⟩ v):=(Below.refl _ _).setCell (p:=⟨b,0,none⟩) A _;have q:Xj rb (rb+1) w w1:=⟨c.os.trans k0.os,c.tape.trans k0.tape,c.output.trans k0.output,Mh k0.size c.size,λr s I=>(c.block r (Mf s k0.size) I).trans (k0.block r s)⟩;have x:=q.trans l;obtain⟨h,i,rfl,_,_⟩:=k.slice;exact⟨_,j,m,⟨_,_,_,rfl⟩,_,L,C,j,E5,E5,D,E,k.same H E8 E8 E8 E8,F.below z n x.size,x.below n,G.mono q.size⟩
theorem GL(c7:Hid (pM 159 400 20 60 700000))(c8:Hid (pM 160 400 20 60 700000)):pM 109 1100 20 60 600000:=by
 intro w j a l n p f hp C;have U:K_ w (w.alloc (.cells #[M0] 25)):=ah _ _;have b0:Hid (Rd (w.alloc (.cells #[M0] 25)) j a l n p):=f.kept U;have y:Hid (aD (w.alloc (.cells #[M0] 25)) w.heap.size 25 1):=aD.made w _ _;have e9:=f.row.lt;have a4:=Kz f;clear f;go_enter func109,ntmps109
 go_wp2_with fail
 refine (aM _ j a l n p _ 10 rfl b0.o E5 E5 C).mono ?_;rintro A e ⟨V,rfl,f1,b1,a5⟩;have⟨W,X⟩:=aH b1 a5;have D:=Kz (y.o.but a5 E5);clear b1 a5;by_cases Y:V=0
 .have c9:((V:Int) == 0)=true:=by simp[Y]
  clear Y;go_wp2_with fail
  refine (c7.out _ j a l n (p+1) W.o E5 C).mono ?_;intro A Z E;obtain⟨v,rfl,q,⟨F,G,H,rfl⟩,I⟩:=E.via (p:=p) X.o U E5 E5 a4.o (Me _) D.o E5 (t':=1100);have⟨HD,a6⟩:=aH I q;have z2:=q.lt;obtain⟨⟨_,u0⟩,f0⟩:=q.row.at (i:=0) E5;clear I E q;go_wp2
  have f:=Mi Z w.heap.size 0 [.slice F G H] (a6.o.row.there (o:=0) (m:=1) (Me _));exact Zx [.slice F G H] _ results109 rfl f underlying25 rfl Tryz.gV rfl HD.o
 have c9:((V:Int) == 0)=false:=by simpa using Y
 clear Y;by_cases h4:(V:Int)<4
 .go_wp2_with fail
  refine (c8.out _ j a l n (p+1) W.o E5 C).mono ?_;intro A Z E;obtain⟨v,rfl,q,⟨F,G,H,rfl⟩,I⟩:=E.via (p:=p) X.o U E5 E5 a4.o (Me _) D.o E5 (t':=1100);have⟨HD,a6⟩:=aH I q;have z2:=q.lt;obtain⟨⟨_,u0⟩,f0⟩:=q.row.at (i:=0) E5;clear I E q;go_wp2
  have f:=Mi Z w.heap.size 0 [.slice F G H] (a6.o.row.there (o:=0) (m:=1) (Me _));exact Zx [.slice F G H] _ results109 rfl f underlying25 rfl Tryz.gV rfl HD.o
 have a7:Hid (fT 20 (w.alloc (.cells #[M0] 25)) (e.alloc (.cells #[M0] 25)) j e.heap.size a l n (p+1) M0 [] []):=fT.made b0.o W.o X.o;have b2:Hid (aD (e.alloc (.cells #[M0] 25)) w.heap.size 25 1):=D.o.kept (ah _ _);go_wp2_with fail
 refine (aM _ j a l n (p+1) _ 9 rfl a7.o.rd E5 E5 C).mono ?_;rintro A Z ⟨v2,rfl,f2,b3,a8⟩;have b4:=Kz (a7.o.drawn b3 a8);have J:=Kz (b2.o.but a8 E5);have d0:w.heap.size≠e.heap.size:=λA=>by have:=D.o.lt;omega
 obtain⟨L,f3⟩:∃L:Nat,L=2+v2:=⟨_,rfl⟩;clear b3 a8 a7 b2 D W X;go_wp2
 go_loopg [6] L (λg d1 wr=>∃(k:Nat) (p':Nat) (v:NJ) (a0:List Qz) (xs:List NJ),d1= .a (k:Int)/\k+g=L/\a0.length=k/\p<=p'/\p'<=p+2+100*k/\aD wr w.heap.size 25 1/\fT 20 (w.alloc (.cells #[M0] 25)) wr j e.heap.size a l n p' v a0 xs)
 case atStart=>exact⟨0,p+2,_,[],[],rfl,E5,rfl,E5,E5,J.o,b4.o⟩
 case round=>
  clear b4 J;obtain⟨k,p7,v,a0,xs,rfl,hk,hL,f4,f5,b5,B⟩:=hrel;obtain⟨wO,rfl⟩:=aj wr;have⟨HO,r,y⟩:=dF B hL b5;obtain⟨M,O,rfl⟩:=ay B.own;have y0:=B.c0;have zb:=B.row.lt;have f6:=B.kb.size;rw[hL] at y0;clear B hL b5;by_cases f7:(k:Int)<2+ (v2:Int)
  .have d2:Hid (∀v:NI,v.cell? ⟨e.heap.size,0,none⟩=wO.cell? ⟨e.heap.size,0,none⟩->(λ(v:NI)=>v.cell? ⟨e.heap.size,0,none⟩=some (.slice M k O)) v):=λv hv=>hv.trans y0
   obtain⟨d3,d4,d5,d6,d7⟩:=aP Tryz.mO;go_wp2
   refine Qk.region F4 (λ(v:NI)=>v.cell? ⟨e.heap.size,0,none⟩=some (.slice M k O)) 12 y0 (λb=>?_);refine ae 0 b ?_;refine ae 1 b ?_;refine ae 2 b ?_;refine ae 4 b ?_;refine ae 5 b ?_;refine ae 6 b ?_;refine aG 3 (λK c=>?_);go_simp
   go_at_call 111
   refine (jq _ k _ rfl E5).mono ?_;rintro A w3 ⟨s,rfl,f8,k3⟩;have K3:K_ wO w3:=(aV _).trans k3;dsimp only;refine c.out _ _ (λ_=>d2.o w3 (K3.cell zb)) ?_;clear c K b k3;have a1:=Kz (HO.o.kept K3);have J:=Kz (y.o.kept K3);have y3:=(K3.cell (o:=0) zb).trans y0;have f9:=a1.o.row.lt;have b:=y3;try simp only[upP]
   refine aG 7 (λK c=>?_);go_simp
   go_at_call 161
   refine (xX _ j a l n p7 k L _ _ rfl E5 a1.o.rd E5 E5 E5 C).mono ?_;rintro A P ⟨cost,us,x,p8,rfl,g0,g1,d8,d9,b6,b7,b8,b9,a9⟩;have Q:=Kz (a1.o.drawn b9 a9);have e0:=Kz (J.o.but a9 E5);have y4:=Q.o.c0;rw[r.o] at y4;have c1:=Kz b8.g;obtain⟨R,S,rfl⟩:=c1.o.slice;have e1:Hid (Qz.TinyN 20 ⟨s,cost,x⟩):=⟨by show s.size<=300;omega,b6,by show x.length<=21;omega,b7⟩;dsimp only;refine c.out _ _ (λ_=>y4) ?_;clear c K b b8 b9 a9 d8 d9 b6 b7 y3 a1 J;have e2:=Q.o.row.lt;have b:=y4;try simp only[upP]
   refine ae 8 b ?_;refine ai 9 (λK c=>?_);go_simp
   have z:K_ P (P.alloc (.cells #[.string s,.a cost,.slice R x.length S] 88)):=ah _ _;refine af c (λ_=>(z.cell e2).trans y4) ?_;clear c K b;refine ai 10 (λK c=>?_);have c2:=Kz (Q.o.kept z);have a2:=c2.o.own;rw[r.o] at a2;have e3:(w.alloc (.cells #[M0] 25)).heap.size<=(P.alloc (.cells #[.string s,.a cost,.slice R x.length S] 88)).heap.size:=c2.o.kb.size;refine step_append_lies _ rfl (.tmp 27) (.tmp 35) 23 rfl (w.alloc (.cells #[M0] 25)).heap.size 88 d3 _ 3 48 underlying23 d4 d5 d6 d7 rfl E8 (.slice M k O) k xs F8 a2 ⟨P.heap.size,0,none⟩ 1 1 [.string s,.a cost,.slice R x.length S] F8 rfl (nC _ _ _ _) (nL _ _ _ _ _) E5 F5 E5 e3 _ rfl ?_;intro g c3 w6 c4 a3 e4 g2;have T:=Q.o.fK z (by rw[r.o];exact a3);have y6:=T.1;rw[r.o] at y6;have g3:=T.2.lt;have g4:=(T.2.row.at (i:=0) E5).2;obtain⟨vo,g5⟩:=(T.2.row.at (i:=0) E5).1;have e5:Hid (fT 20 (w.alloc (.cells #[M0] 25)) (w6.setCell ⟨e.heap.size,0,none⟩ (.b g (k+1) c3)) j e.heap.size a l n p8 (.b g (k+1) c3) (a0++ [⟨s,cost,x⟩]) (xs++ [.string s,.a cost,.slice R x.length S])):=
    Q.o.push (d:=⟨s,cost,x⟩) z (c1.o.same (u:=25) (.ax z) E8 E8 E8) e1.o (by rw[r.o];exact c4) (by rw[r.o];exact a3)
   have c5:aC 88 (P.alloc (.cells #[.string s,.a cost,.slice R x.length S] 88)) w6:=aC.aI a2 a3;have e6:Hid (aD w6 w.heap.size 25 1):=by
    obtain⟨c6,e7,e8⟩:=e0.o.kept z;exact⟨c6,c5 _ c6 _ _ E8 e7,e8⟩
   clear T a2 c4 a3 e4 c5 z;refine af c (λ_=>y6) ?_;clear c K;have b:=y6;refine ae 11 b ?_;refine ai 12 (λK c=>?_);go_simp
   refine af c (λh=>Nv rfl h) ?_;clear c K;refine aF ?_;go_wp2
   go_roundg (gk-1)
   case rel=>exact⟨k+1,p8,_,_,_,F3,E5,by rw[MU,r.o];rfl,E5,E5,e6.o.block (Below.heap_setCell _ _ _ _ (by simpa using d0)),e5.o⟩
   case measure=>omega
  .obtain⟨⟨_,x0⟩,g6⟩:=y.o.row.at (i:=0) E5;have z1:=y.o.lt;go_wp2
   have f:=Mi wO w.heap.size 0 [.slice M k O] (y.o.row.there (o:=0) (m:=1) (Me _));have hE:=HO.o.ends (N:=60) (p:=p) (t:=1100) y.o (Me _) U a4.o rfl E5 E5 (by have:=r.o;omega);rw[r.o] at hE;exact Zx [.slice M k O] _ results109 rfl f underlying25 rfl Tryz.gV rfl hE
section
variable {M : Nat} {w wr : NI} {rb ob sb : Nat} {a : NH} {cap : Nat} {bs : List UInt8} {p : Nat} {cost : Int} {v : NJ} {L : List Xq} {xs : List NJ} {k : Nat} {va vc : NJ} {s : Xq}
theorem eB.fin(h:eB M w wr rb ob sb a cap bs p cost v L xs k va vc s)(x:Bool):eB M w (wr.setCell ⟨sb,5,none⟩ (.bool x)) rb ob sb a cap bs p cost v L xs k va vc {s with fin:=x}:=
 h.field (h.st.box.fin x) rfl rfl ⟨h.st.tiny.asks,h.st.tiny.eO,h.st.tiny.on,h.st.tiny.cases,h.st.tiny.dB,h.st.tiny.els,h.st.tiny.fall,h.st.tiny.give⟩
theorem eB.bad(h:eB M w wr rb ob sb a cap bs p cost v L xs k va vc s)(x:Bool):eB M w (wr.setCell ⟨sb,6,none⟩ (.bool x)) rb ob sb a cap bs p cost v L xs k va vc {s with bad:=x}:=
 h.field (h.st.box.bad x) rfl rfl ⟨h.st.tiny.asks,h.st.tiny.eO,h.st.tiny.on,h.st.tiny.cases,h.st.tiny.dB,h.st.tiny.els,h.st.tiny.fall,h.st.tiny.give⟩
theorem eB.give(h:eB M w wr rb ob sb a cap bs p cost v L xs k va vc s)(x:NG)(c:x.size<=300):eB M w (wr.setCell ⟨sb,7,none⟩ (.string x)) rb ob sb a cap bs p cost v L xs k va vc {s with give:=x}:=
 h.field (h.st.box.give x) rfl rfl ⟨h.st.tiny.asks,h.st.tiny.eO,h.st.tiny.on,h.st.tiny.cases,h.st.tiny.dB,h.st.tiny.els,h.st.tiny.fall,c⟩
theorem eB.on(h:eB M w wr rb ob sb a cap bs p cost v L xs k va vc s)(x:Int)(c: -1000<=x/\x<=1000):eB M w (wr.setCell ⟨sb,1,none⟩ (.a x)) rb ob sb a cap bs p cost v L xs k va vc {s with on:=x}:=
 h.field (h.st.box.on x) rfl rfl ⟨h.st.tiny.asks,h.st.tiny.eO,c,h.st.tiny.cases,h.st.tiny.dB,h.st.tiny.els,h.st.tiny.fall,h.st.tiny.give⟩
theorem eB.els(h:eB M w wr rb ob sb a cap bs p cost v L xs k va vc s)(x:Int)(c:In64 x):eB M w (wr.setCell ⟨sb,3,none⟩ (.a x)) rb ob sb a cap bs p cost v L xs k va vc {s with els:=x}:=
 h.field (h.st.box.els x) rfl rfl ⟨h.st.tiny.asks,h.st.tiny.eO,h.st.tiny.on,h.st.tiny.cases,h.st.tiny.dB,c,h.st.tiny.fall,h.st.tiny.give⟩
theorem eB.fall(h:eB M w wr rb ob sb a cap bs p cost v L xs k va vc s)(x:Int)(c: -1000<=x/\x<=1000):eB M w (wr.setCell ⟨sb,4,none⟩ (.a x)) rb ob sb a cap bs p cost v L xs k va vc {s with fall:=x}:=
 h.field (h.st.box.fall x) rfl rfl ⟨h.st.tiny.asks,h.st.tiny.eO,h.st.tiny.on,h.st.tiny.cases,h.st.tiny.dB,h.st.tiny.els,c,h.st.tiny.give⟩
end
theorem eB.Kh{c e:Nat}{cost:Int}{k:Nat}{f d:NJ}(h:eB M w wr rb c e a cap bs p cost v L xs k f d s)(i:K_ wr w1)(j:w1.grownBy w2 d.ownBlock):w2.cell? ⟨c,1,none⟩=some v:=by
 have b:=h.kept i;exact ((b.row.ja (aC.aI b.st.cases j) E8).2 1).trans b.c1
theorem eB.cut{c m:Nat}{cost:Int}{k g b:Nat}{n q:NJ}(h:eB M w wr rb c m a cap bs p cost (.b g L.length b) L xs k n q s):
  ui M w (wr.setCell ⟨c,1,none⟩ (.b g k b)) rb c a cap bs p cost (.b g k b) (L.take k):=by
 have B:=h.kl;have r:=h.row.same (o:=1) (.b g k b);have f:Below w.heap.size wr (wr.setCell ⟨c,1,none⟩ (.b g k b)):=(Below.refl _ _).setCell h.obl _;obtain⟨C,t⟩:=h.st.rd0;have e:(L.take k).length=k:=G9;rcases h.own.2 with⟨d,_⟩|⟨D,E,v,d,F,x,G,_,H,_⟩
 .simp at d
 simp only[MW,MV,ND,and_true,true_and] at d;obtain⟨rfl,rfl⟩:=d;refine⟨h.st.rd.below t f h.st.kb.size,h.st.kb.below f,h.row.set _,(Xk E5 _).trans h.c0,aW h.row.row E5 _,StW.same ⟨some ⟨g,0,none⟩,b,by rw[e],by rw[e];omega,λi j=>?_⟩ r E8 E8 E8,λy z=>h.tiny y (List.mem_of_mem_take z)⟩;rw[e] at j;have l:=(h.oth i E5 E5).1;have A:(L.take k).getD i Xq.zero=L.getD i Xq.zero:=by simp[List.getD,j]
 rw[A];exact⟨g,0,v,_,kZ xs i,rfl,x,pR h.own i,l.step,l.nV⟩
theorem jE.fin{c:Nat}{cost:Int}(h:jE M w wr rb c a cap bs p cost v L xs):ui M w wr rb c a cap bs p cost v L:=
 ⟨h.rd,h.kb,h.row,h.c0,h.c1,StW.gK h.own h.pack h.nV,h.tiny⟩
theorem eB.act{b d:Nat}{cost:Int}{k:Nat}{e f:NJ}(h:eB M w wr rb b d a cap bs p cost v L xs k e f s)(c:eG wr w.heap.size xs L):jE M w wr rb b a cap bs p cost v L xs:=
 ⟨h.st.rd,h.st.rd0,h.obl,h.st.kb,h.row,h.c0,h.c1,h.own,c.packed,h.tiny,c.nV⟩
def Lf(M:Nat)(A0 wx:NI)(rb ob sb:Nat)(a:NH)(cap:Nat)(bs:List UInt8)(p:Nat)(v:NJ)(L:List Xq)(xs:List NJ)(k:Nat):Prop:=
 ∃(cost:Int) (va vc:NJ) (s:Xq) (p':Nat),(-1000<=cost/\cost<=1000)/\p<=p'/\p'<=p+4/\eB M A0 wx rb ob sb a cap bs p' cost v L xs k va vc s
theorem Fw(mN:Nat)(o4:mN<=900)(w:NI)(y:Nat)(a:NH)(D:Nat)(A:List UInt8)(p:Nat)(cost:Int)(sa:NH)(b6:Nat)(L:List Xq)(hR:Rd w y a D A p)(hp:p<=800000)(P:A.length<=2000)(hL:L.length<=21)(Q: -1000<=cost/\cost<=1000)(g3:∀s∈L,s.TinyN mN)(hS:j_ w sa L):
  Calls prog 164 #[.c y,.agg #[.a cost,.slice sa L.length b6]] w λe w'=>Kl (mN+10) w w' y a D A p 10 e:=by
 obtain⟨N,b7⟩:=aj ((w.alloc (.cells #[.a cost,.slice sa L.length b6] 73)).alloc (.cells #[.a 0,M0] 73));have k0:K_ w N:=by rw[b7];exact (ah _ _).alloc _
 have i6:N.heap.size=w.heap.size+2:=by rw[b7];simp
 have d6:Hid (aD N (w.heap.size+1) 73 2):=by
  rw[b7];refine Kz ?_;have:=aD.made (w.alloc (.cells #[.a cost,.slice sa L.length b6] 73)) #[.a 0,M0] 73;simpa using this
 have o5:N.cell? ⟨w.heap.size,0,none⟩=some (.a cost):=by
  rw[b7,K_.cell (w:=w.alloc (.cells #[.a cost,.slice sa L.length b6] 73)) (ah _ _) E9];exact X_ w _ _ 0 _ rfl
 have o6:N.cell? ⟨w.heap.size,1,none⟩=some (.slice sa L.length b6):=by
  rw[b7,K_.cell (w:=w.alloc (.cells #[.a cost,.slice sa L.length b6] 73)) (ah _ _) E9];exact X_ w _ _ 1 _ rfl
 have az:w.heap.size<N.heap.size:=E5;have d7:=Kz hR;have d8:=Kz (hR.kept k0);have o7:=hR.row.lt;have i7:=Kz g3;have i8:Hid (∀s∈L,s.TinyN (mN+10)):=λs hs=>(g3 s hs).mono E5
 clear hR g3;go_enter func164,ntmps164
 go_upto_region 1 with fail
 rw[<-b7];have o8:=Kz i6;clear b7 i6;go_wp2_with fail
 refine (CK _ cost sa b6 L E5 (mN:=mN) E5 i7.o (hS.kept k0)).mono ?_;rintro e M ⟨v1,xs,rfl,g4,i9,k1⟩;obtain⟨av,E,rfl⟩:=ay g4;have kk:K_ M (M.alloc (.cells #[.a cost,.slice av L.length E] 73)):=ah _ _;have a2:=Kz (k1.trans kk);have b2:=Kz (ak g4 kk);have d9:=Kz (i9.same (u:=114) (aC.ax kk) E8 E8);have c7:Hid (aD (M.alloc (.cells #[.a cost,.slice av L.length E] 73)) M.heap.size 73 2):=aD.made M _ _;have c8:Hid ((M.alloc (.cells #[.a cost,.slice av L.length E] 73)).cell? ⟨M.heap.size,0,none⟩=some (.a cost)):=X_ M _ _ 0 _ rfl;have b3:Hid ((M.alloc (.cells #[.a cost,.slice av L.length E] 73)).cell? ⟨M.heap.size,1,none⟩=some (.slice av L.length E)):=X_ M _ _ 1 _ rfl;have m0:N.heap.size<=M.heap.size:=k1.size;clear g4 i9 k1 kk;go_upto_region 2 with fail
 obtain⟨W2,j0⟩:=aj (M.alloc (.cells #[.a cost,.slice av L.length E] 73));rw[<-j0] at a2 b2 d9 c7 c8 b3⊢;clear j0;have o1:=b3.o;have oz:=c7.o.lt;by_cases e2:L.length=0
 .have m1:((L.length:Int) == 0)=true:=by simp[e2]
  have S:=Kz (ui.made (d8.o.kept a2.o) (.ax a2.o) c7.o c8.o b3.o b2.o d9.o i8.o);clear e2;have F:=Kz (d6.o.kept a2.o);obtain⟨⟨_,x0⟩,g5⟩:=F.o.row.at (i:=0) E5;obtain⟨⟨_,x1⟩,g1⟩:=F.o.row.at (i:=1) E5;have xz:=F.o.lt;have o0:=c8.o;go_wp2
  have hR:=Mi W2 (w.heap.size+1) 0 [.a cost,.slice av L.length E] (F.o.row.there (o:=0) (m:=2) (Me _));exact Zx [.a cost,.slice av L.length E] _ results164 rfl hR underlying73 rfl Tryz.iE rfl (S.o.ends F.o E5 k0 d7.o rfl (Me _) E5 E5 Q)
 .have m1:((L.length:Int) == 0)=false:=by simpa using e2
  go_wp2_with fail
  refine (aM _ y a D A p _ L.length rfl (d8.o.kept a2.o) E5 E5 P).mono ?_;rintro e Y ⟨U,rfl,hk,j1,g6⟩;have g7:U<L.length:=E5;have e3:=g6.sameKind (d8.o.kept a2.o);have j2:=Kz j1;have m2:Hid (Xj y (y+1) N Y):=(Xj.ax a2.o).trans g6;have e4:=c7.o.ja e3 E8;have g8:=Kz e4.1;have o0:=(e4.2 0).trans c8.o;have j3:=(e4.2 1).trans b3.o;have e5:=Kz (aQ b2.o e3 E8);have e6:=Kz (d9.o.same e3 E8 E8);have m3:=g8.o.lt;obtain⟨s,c9⟩:=aj (L.getD U Xq.zero);have j4:=e6.o.each U g7;rw[<-c9] at j4;obtain⟨aa,ca,ac,cc,g9,g1,g2⟩:=j4;rcases e5.o.2 with⟨_,e0⟩|⟨g,d0,m4,ev,o9,h0,j5,_,c5,_⟩
  .exact Nv e0 e2
  simp only[MW,true_and] at ev;obtain⟨rfl,rfl⟩:=ev;have a9:=pR e5.o U;rw[g9] at a9;have c0:=a9 0 _ rfl;have j6:=a9 1 _ rfl;have j7:=a9 2 _ rfl;have c3:=a9 3 _ rfl;have c4:=a9 4 _ rfl;have j8:=a9 5 _ rfl;have j9:=a9 6 _ rfl;have k2:=a9 7 _ rfl;rw[M_] at c0;simp only[MM] at c0 j6 j7 c3 c4 j8 j9 k2;have gz:=aN h0;have e7:=Kz (eB.made j2.o d8.o m2.o m0 g8.o o0 j3 e5.o e6.o g7 i8.o c9 g9);have m5:Hid (aD Y g 176 (E*8)):=⟨m4,h0,c5⟩;have p0:L.length<=E:=j5;have p1:(U:Int)<(L.length:Int):=E5;have h1:s.TinyN mN:=i7.o s (by rw[c9];simp[List.getD,g7]);have p2:=h1.asks;have p3:=h1.cases;clear h1;have p4:=Kz c9;clear a9 h0 c5 g1 g2 g9 j5 j1 g6 e3 e4 c9;go_wp2_with fail
  refine (aM _ y a D A (p+1) _ 14 rfl e7.o.st.rd E5 E5 P).mono ?_;rintro e W ⟨u,rfl,z,k3,h2⟩;have n:=Kz (e7.o.drawn k3 h2);have k4:=h2.sameKind e7.o.st.rd;have d1:K_ Y (Y.alloc (.cells #[.slice aa s.asks.length ca,.a s.on,.slice ac s.cases.length cc,.a s.els,.a s.fall,.bool s.fin,.bool s.bad,.string s.give] 176)):=ah _ _;have k5:=Kz ((e6.o.same (u:=114) (aC.ax d1) E8 E8).same k4 E8 E8);have e8:Y.heap.size<W.heap.size:=n.o.st.box.row.lt;clear k3 h2 e7 e6 d9 c0 j6 j7 c3 c4 j8 j9 k2 m5 g8 e5 o0 j3 o1 c8 b3 c7 b2 d1 k4 j2 gz m3 oz
  go_upto_block 0 with fail
  go_cut [8,9,10] from 31 to 198 (λ_ _ _ wx=>Lf (mN+10) N wx y M.heap.size Y.heap.size a D A (p+2) (.b g L.length E) L xs U)
  case first=>
   have b8:u=0\/u=1\/u=2\/u=3\/u=4\/u=5\/u=6\/u=7\/u=8\/u=9\/u=10\/u=11\/u=12\/u=13:=E5;have y5:=n.o.st.box.c5;have y6:=n.o.st.box.c6;have y3:=n.o.st.box.c3;obtain⟨_,f5⟩:=n.o.st.box.cell (o:=5) E5;obtain⟨_,f6⟩:=n.o.st.box.cell (o:=6) E5;obtain⟨_,f3⟩:=n.o.st.box.cell (o:=3) E5;obtain⟨_,f7⟩:=n.o.st.box.cell (o:=7) E5;clear z;obtain rfl|rfl|rfl|rfl|rfl|rfl|rfl|rfl|rfl|rfl|rfl|rfl|rfl|rfl:=b8
   .have d1:K_ W (W.alloc (.cells #[.a 0,.a 20,.a 21] 3)):=ah _ _;have r:=Kz (n.o.kept d1);go_wp2_with fail
    refine (aM _ y a D A (p+2) _ 3 rfl r.o.st.rd E5 E5 P).mono ?_;rintro e l ⟨q,rfl,hq,k,i⟩;have j:=Kz (r.o.drawn k i);obtain⟨c,x,B,C⟩:=uY [0,20,21] i n.o.st.rd.row.lt q (by show q<3;omega) E8;obtain⟨⟨_,r0⟩,p5⟩:=j.o.row.row.at (i:=0) E5;have rz:=j.o.row.lt;have lz:W.heap.size<l.heap.size:=Mf E9 i.size;have p6:(q:Int)<3:=E5;clear k i r d1;go_wp2
    go_meet
    exact⟨c,_,_,_,p+3,⟨B,C⟩,E5,E5,j.o.cost⟩
   .go_wp2
    go_meet
    exact⟨cost,_,_,_,p+2,Q,E5,E5,n.o.fin _⟩
   .go_wp2
    go_meet
    exact⟨cost,_,_,_,p+2,Q,E5,E5,n.o.bad _⟩
   .go_wp2_with fail
    refine (aM _ y a D A (p+2) _ 2 rfl n.o.st.rd E5 E5 P).mono ?_;rintro e l ⟨q,rfl,hq,k,i⟩;have j:=Kz (n.o.drawn k i);obtain⟨⟨_,r7⟩,p7⟩:=j.o.st.box.cell (o:=7) E5;have rz:=j.o.st.box.row.lt;clear k i;go_wp2_with fail
    refine (uW _ ⟨#[103]⟩ _ (30+q) (by push_cast;rfl) E5 E8).mono ?_;rintro e w6 ⟨⟨J,rfl,t⟩,rfl⟩;have d2:J.size<=300:=by have e1:(⟨#[103]⟩:NG).size=1:=rfl;rw[e1] at t;omega
    go_wp2
    go_meet
    exact⟨cost,_,_,_,p+3,Q,E5,E5,j.o.give _ d2⟩
   .have r:=Kz (n.o.kept (aV W));have T:=r.o.st.box.c0;go_upto_region 17 with fail
    refine Qk.region F4 (λw'=>w'.cell? ⟨Y.heap.size,0,none⟩=some (.slice aa s.asks.length ca)) 14 T (λd=>?_);generalize a4:W.drew=Z at r d⊢;clear a4 T;refine ae 0 d ?_;refine ae 1 d ?_;refine ae 2 d ?_;refine ae 7 d ?_;refine aG 3 (λK b=>?_);go_simp
    go_at_call 19
    refine (aM _ y a D A (p+2) _ 2 rfl r.o.st.rd E5 E5 P).mono ?_;rintro e l ⟨q,rfl,hq,k,i⟩;have j:=Kz (r.o.drawn k i);clear k i;dsimp only;refine af b (λ_=>j.o.st.box.c0) ?_;clear b K;clear d r;have d:=j.o.st.box.c0;have m6:IntKind.i64.wrap (20+ (q:Int))=20+ (q:Int):=G6;refine bY 4 (.a (20+ (q:Int))) d ?_ ?_
    .intro u z;try dsimp only at z
     go_simp
     try with_reducible rfl
    try simp only[upP]
    refine aG 5 (λK b=>?_);go_simp
    go_at_call 163
    refine (uW _ ⟨#[110]⟩ _ (20+q) (by push_cast;rfl) E5 E8).mono ?_;rintro e w6 ⟨⟨J,rfl,t⟩,h3⟩;have d2:J.size<=300:=by have e1:(⟨#[110]⟩:NG).size=1:=rfl;rw[e1] at t;omega
    subst h3;dsimp only;refine af b (λ_=>j.o.st.box.c0) ?_;clear b K;have k6:∀c∈([⟨#[]⟩,⟨#[45]⟩,⟨#[97,44,98]⟩,⟨#[120,32,121]⟩,J,⟨#[97]⟩]:List NG),c.size<=300:=by
     intro c x;simp only[Na,Nb,or_false] at x;rcases x with rfl | rfl | rfl | rfl | rfl | rfl <;> first | exact d2 | decide
    refine ik 6 8 (λK b=>?_) (λK b=>?_)
    .rw[Nt G5];go_simp
     have G:K_ w6 (w6.alloc (.cells #[.string ⟨#[]⟩,.string ⟨#[45]⟩,.string ⟨#[97,44,98]⟩,.string ⟨#[120,32,121]⟩,.string J,.string ⟨#[97]⟩] 9)):=ah _ _;have f:=Kz (j.o.kept G);refine af b (λ_=>f.o.st.box.c0) ?_;clear b K;clear d G;refine aG 8 (λK b=>?_);go_simp
     go_at_call 19
     refine (aM _ y a D A (p+3) _ 6 rfl f.o.st.rd E5 E5 P).mono ?_;rintro e wE ⟨R,rfl,k7,k,i⟩;have O:=Kz (f.o.drawn k i);obtain⟨c,x,c5⟩:=zV [⟨#[]⟩,⟨#[45]⟩,⟨#[97,44,98]⟩,⟨#[120,32,121]⟩,J,⟨#[97]⟩] i j.o.st.rd.row.lt R (by show R<6;omega) k6;have lz:w6.heap.size<wE.heap.size:=Nat.lt_of_lt_of_le E9 i.size;clear k i;dsimp only;refine af b (λ_=>O.o.st.box.c0) ?_;clear b K;have b9:(R:Int)<6:=E5;refine ai 9 (λK b=>?_);go_simp
     refine af b (λ_=>O.o.st.box.c0) ?_;clear b K;refine ai 10 (λK b=>?_);go_simp
     refine af b (λ_=>O.o.st.box.c0) ?_;clear b K;refine ai 11 (λK b=>?_);go_simp
     have X:K_ wE (wE.alloc (.cells #[.string c] 9)):=ah _ _;have b0:=Kz (O.o.kept X);have a3:=Kz X;refine af b (λ_=>b0.o.st.box.c0) ?_;clear b K;clear X;obtain⟨ic,a5,B,C,a6⟩:=aP Tryz.gJ;refine ai 12 (λK b=>?_);refine step_append_lies _ rfl (.tmp 65) (.tmp 75) 26 rfl N.heap.size 9 ic _ 1 16 underlying26 a5 B C a6 rfl E8 (.slice aa s.asks.length ca) s.asks.length (s.asks.map Value.string) F8 b0.o.st.asks ⟨wE.heap.size,0,none⟩ 1 1 [.string c] F8 rfl (kU wE c) (ko c) E5 F5 E5 b0.o.st.kb.size _ rfl ?_;intro g2 e9 w8 a7 V a0 b1;have H:=Kz (O.o.st.t_ a3.o V);have h4:=Kz (O.o.pq (x:=c) a3.o a7 V (vU a0) E5 c5);have z6:=H.o.row.lt;have y6:=H.o.c0;obtain⟨_,f6⟩:=H.o.cell (o:=0) E5;clear a7 V a0 b1;refine af b (λ_=>H.o.c0) ?_;clear b K;have d:=H.o.c0;refine ae 13 d ?_;refine ai 14 (λK b=>?_);go_simp
     refine af b (λh=>Nv rfl h) ?_;clear b K;refine aF ?_;go_wp2
     go_meet
     exact⟨cost,_,_,_,p+4,Q,E5,E5,h4.o⟩
    .rw[Nt G5];go_simp
     go_at_call 19
     refine (aM _ y a D A (p+3) _ 6 rfl j.o.st.rd E5 E5 P).mono ?_;rintro e w7 ⟨R,rfl,k7,k,i⟩;have f:=Kz (j.o.drawn k i);clear k i;dsimp only;refine af b (λ_=>f.o.st.box.c0) ?_;clear b K;clear d;refine aG 6 (λK b=>?_);go_simp
     have G:K_ w7 (w7.alloc (.cells #[.string ⟨#[]⟩,.string ⟨#[45]⟩,.string ⟨#[97,44,98]⟩,.string ⟨#[120,32,121]⟩,.string J,.string ⟨#[97]⟩] 9)):=ah _ _;have O:=Kz (f.o.kept G);obtain⟨c,x,c5⟩:=BF w7 9 [⟨#[]⟩,⟨#[45]⟩,⟨#[97,44,98]⟩,⟨#[120,32,121]⟩,J,⟨#[97]⟩] R (by show R<6;omega) k6;clear G;have c1:(w7.alloc (.cells #[.string ⟨#[]⟩,.string ⟨#[45]⟩,.string ⟨#[97,44,98]⟩,.string ⟨#[120,32,121]⟩,.string J,.string ⟨#[97]⟩] 9)).cell? ⟨w7.heap.size,R,none⟩=some (.string c):=x;have lz:w7.heap.size<(w7.alloc (.cells #[.string ⟨#[]⟩,.string ⟨#[45]⟩,.string ⟨#[97,44,98]⟩,.string ⟨#[120,32,121]⟩,.string J,.string ⟨#[97]⟩] 9)).heap.size:=E9;clear x;refine af b (λ_=>O.o.st.box.c0) ?_;clear b K;generalize c2:w7.alloc (.cells #[.string ⟨#[]⟩,.string ⟨#[45]⟩,.string ⟨#[97,44,98]⟩,.string ⟨#[120,32,121]⟩,.string J,.string ⟨#[97]⟩] 9)=wE at O c1 lz⊢;clear c2;have b9:(R:Int)<6:=E5;refine ai 9 (λK b=>?_);go_simp
     refine af b (λ_=>O.o.st.box.c0) ?_;clear b K;refine ai 10 (λK b=>?_);go_simp
     refine af b (λ_=>O.o.st.box.c0) ?_;clear b K;refine ai 11 (λK b=>?_);go_simp
     have X:K_ wE (wE.alloc (.cells #[.string c] 9)):=ah _ _;have b0:=Kz (O.o.kept X);have a3:=Kz X;refine af b (λ_=>b0.o.st.box.c0) ?_;clear b K;clear X;obtain⟨ic,a5,B,C,a6⟩:=aP Tryz.gJ;refine ai 12 (λK b=>?_);refine step_append_lies _ rfl (.tmp 65) (.tmp 75) 26 rfl N.heap.size 9 ic _ 1 16 underlying26 a5 B C a6 rfl E8 (.slice aa s.asks.length ca) s.asks.length (s.asks.map Value.string) F8 b0.o.st.asks ⟨wE.heap.size,0,none⟩ 1 1 [.string c] F8 rfl (kU wE c) (ko c) E5 F5 E5 b0.o.st.kb.size _ rfl ?_;intro g2 e9 w8 a7 V a0 b1;have H:=Kz (O.o.st.t_ a3.o V);have h4:=Kz (O.o.pq (x:=c) a3.o a7 V (vU a0) E5 c5);have z6:=H.o.row.lt;have y6:=H.o.c0;obtain⟨_,f6⟩:=H.o.cell (o:=0) E5;clear a7 V a0 b1;refine af b (λ_=>H.o.c0) ?_;clear b K;have d:=H.o.c0;refine ae 13 d ?_;refine ai 14 (λK b=>?_);go_simp
     refine af b (λh=>Nv rfl h) ?_;clear b K;refine aF ?_;go_wp2
     go_meet
     exact⟨cost,_,_,_,p+4,Q,E5,E5,h4.o⟩
   .have r:=Kz (n.o.kept (aV W));have T:=r.o.st.box.c0;have p8:s.asks.length<=900:=E5;go_upto_region 19 with fail
    refine Qk.region F4 (λw'=>w'.cell? ⟨Y.heap.size,0,none⟩=some (.slice aa s.asks.length ca)) 9 T (λd=>?_);generalize a4:W.drew=Z at r d⊢;clear a4 T;refine ae 0 d ?_;refine ae 1 d ?_;refine ae 2 d ?_;refine ae 4 d ?_;refine ik 3 5 (λK b=>?_) (λK b=>?_)
    .rw[Nt G5];go_simp
     have G:K_ Z (Z.alloc (.cells #[.a (-1),.a (s.asks.length:Int),.a 0,.a 1] 3)):=ah _ _;have j:=Kz (r.o.kept G);refine af b (λ_=>j.o.st.box.c0) ?_;clear b K;clear d G;refine aG 5 (λK b=>?_);go_simp
     go_at_call 19
     refine (aM _ y a D A (p+2) _ 4 rfl j.o.st.rd E5 E5 P).mono ?_;rintro e l ⟨q,rfl,hq,k,i⟩;have f:=Kz (j.o.drawn k i);obtain⟨c,x,B,C⟩:=uY [-1,(s.asks.length:Int),0,1] i r.o.st.rd.row.lt q (by show q<4;omega) (λc x=>by simp at x;omega);have lz:Z.heap.size<l.heap.size:=Nat.lt_of_lt_of_le E9 i.size;clear k i;dsimp only;refine af b (λ_=>f.o.st.box.c0) ?_;clear b K;have b9:(q:Int)<4:=E5;refine ai 6 (λK b=>?_);go_simp
     refine af b (λ_=>f.o.st.box.c0) ?_;clear b K;refine ai 7 (λK b=>?_);go_simp
     refine af b (λ_=>f.o.st.box.c0) ?_;clear b K;have d:=f.o.st.box.c0;refine ae 8 d ?_;obtain⟨_,d3⟩:=f.o.st.box.cell (o:=1) E5;obtain⟨⟨_,r1⟩,_⟩:=f.o.st.box.cell (o:=1) E5;have rz:=f.o.st.box.row.lt;refine ai 9 (λK b=>?_);go_simp
     refine af b (λh=>Nv rfl h) ?_;clear b K;refine aF ?_;go_wp2
     go_meet
     exact⟨cost,_,_,_,p+3,Q,E5,E5,f.o.on c ⟨B,C⟩⟩
    .rw[Nt G5];go_simp
     go_at_call 19
     refine (aM _ y a D A (p+2) _ 4 rfl r.o.st.rd E5 E5 P).mono ?_;rintro e l ⟨q,rfl,hq,k,i⟩;have j:=Kz (r.o.drawn k i);clear k i;dsimp only;refine af b (λ_=>j.o.st.box.c0) ?_;clear b K;clear d;refine aG 3 (λK b=>?_);go_simp
     have G:K_ l (l.alloc (.cells #[.a (-1),.a (s.asks.length:Int),.a 0,.a 1] 3)):=ah _ _;have f:=Kz (j.o.kept G);obtain⟨c,x,B,C⟩:=wX l 3 [-1,(s.asks.length:Int),0,1] q (by show q<4;omega) (λc x=>by simp at x;omega);clear G;have c1:(l.alloc (.cells #[.a (-1),.a (s.asks.length:Int),.a 0,.a 1] 3)).cell? ⟨l.heap.size,q,none⟩=some (.a c):=x;have lz:l.heap.size<(l.alloc (.cells #[.a (-1),.a (s.asks.length:Int),.a 0,.a 1] 3)).heap.size:=E9;clear x;refine af b (λ_=>f.o.st.box.c0) ?_;clear b K;generalize c2:l.alloc (.cells #[.a (-1),.a (s.asks.length:Int),.a 0,.a 1] 3)=wE at f c1 lz⊢;clear c2;have b9:(q:Int)<4:=E5;refine ai 6 (λK b=>?_);go_simp
     refine af b (λ_=>f.o.st.box.c0) ?_;clear b K;refine ai 7 (λK b=>?_);go_simp
     refine af b (λ_=>f.o.st.box.c0) ?_;clear b K;have d:=f.o.st.box.c0;refine ae 8 d ?_;obtain⟨_,d3⟩:=f.o.st.box.cell (o:=1) E5;obtain⟨⟨_,r1⟩,_⟩:=f.o.st.box.cell (o:=1) E5;have rz:=f.o.st.box.row.lt;refine ai 9 (λK b=>?_);go_simp
     refine af b (λh=>Nv rfl h) ?_;clear b K;refine aF ?_;go_wp2
     go_meet
     exact⟨cost,_,_,_,p+3,Q,E5,E5,f.o.on c ⟨B,C⟩⟩
   .have r:=Kz (n.o.kept (aV W));have T:=r.o.c1;have m7:IntKind.i64.wrap ((L.length:Int)-1)= (L.length:Int)-1:=G6;go_upto_region 21 with fail
    refine Qk.region F4 (λw'=>w'.cell? ⟨M.heap.size,1,none⟩=some (.b g L.length E)) 13 T (λd=>?_);generalize a4:W.drew=Z at r d⊢;clear a4 T;refine au 0 d ?_;refine ae 4 d ?_;refine ae 5 d ?_;refine bY 6 (.a ((L.length:Int)-1)) d ?_ ?_
    .intro u z;try dsimp only at z
     go_simp
     try with_reducible rfl
    try simp only[upP]
    refine ae 8 d ?_;refine ik 7 9 (λK b=>?_) (λK b=>?_)
    .rw[Nt G5];go_simp
     have G:K_ Z (Z.alloc (.cells #[.a (-1),.a (L.length:Int),.a ((L.length:Int)-1)] 3)):=ah _ _;have j:=Kz (r.o.kept G);refine af b (λ_=>j.o.c1) ?_;clear b K;clear d G;refine aG 9 (λK b=>?_);go_simp
     go_at_call 19
     refine (aM _ y a D A (p+2) _ 3 rfl j.o.st.rd E5 E5 P).mono ?_;rintro e l ⟨q,rfl,hq,k,i⟩;have f:=Kz (j.o.drawn k i);obtain⟨c,x,B,C⟩:=uY [-1,(L.length:Int),(L.length:Int)-1] i r.o.st.rd.row.lt q (by show q<3;omega) (λc x=>by simp at x;omega);have lz:Z.heap.size<l.heap.size:=Nat.lt_of_lt_of_le E9 i.size;clear k i;dsimp only;refine af b (λ_=>f.o.c1) ?_;clear b K;have b9:(q:Int)<3:=E5;refine ai 10 (λK b=>?_);go_simp
     refine af b (λ_=>f.o.c1) ?_;clear b K;refine ai 11 (λK b=>?_);go_simp
     refine af b (λ_=>f.o.c1) ?_;clear b K;have d:=f.o.c1;refine ae 12 d ?_;obtain⟨_,d3⟩:=f.o.st.box.cell (o:=3) E5;obtain⟨⟨_,r1⟩,_⟩:=f.o.st.box.cell (o:=3) E5;have rz:=f.o.st.box.row.lt;refine ai 13 (λK b=>?_);go_simp
     refine af b (λh=>Nv rfl h) ?_;clear b K;refine aF ?_;go_wp2
     go_meet
     exact⟨cost,_,_,_,p+3,Q,E5,E5,f.o.els c (nG ⟨B,C⟩)⟩
    .rw[Nt G5];go_simp
     go_at_call 19
     refine (aM _ y a D A (p+2) _ 3 rfl r.o.st.rd E5 E5 P).mono ?_;rintro e l ⟨q,rfl,hq,k,i⟩;have j:=Kz (r.o.drawn k i);clear k i;dsimp only;refine af b (λ_=>j.o.c1) ?_;clear b K;clear d;refine aG 7 (λK b=>?_);go_simp
     have G:K_ l (l.alloc (.cells #[.a (-1),.a (L.length:Int),.a ((L.length:Int)-1)] 3)):=ah _ _;have f:=Kz (j.o.kept G);obtain⟨c,x,B,C⟩:=wX l 3 [-1,(L.length:Int),(L.length:Int)-1] q (by show q<3;omega) (λc x=>by simp at x;omega);clear G;have c1:(l.alloc (.cells #[.a (-1),.a (L.length:Int),.a ((L.length:Int)-1)] 3)).cell? ⟨l.heap.size,q,none⟩=some (.a c):=x;have lz:l.heap.size<(l.alloc (.cells #[.a (-1),.a (L.length:Int),.a ((L.length:Int)-1)] 3)).heap.size:=E9;clear x;refine af b (λ_=>f.o.c1) ?_;clear b K;generalize c2:l.alloc (.cells #[.a (-1),.a (L.length:Int),.a ((L.length:Int)-1)] 3)=wE at f c1 lz⊢;clear c2;have b9:(q:Int)<3:=E5;refine ai 10 (λK b=>?_);go_simp
     refine af b (λ_=>f.o.c1) ?_;clear b K;refine ai 11 (λK b=>?_);go_simp
     refine af b (λ_=>f.o.c1) ?_;clear b K;have d:=f.o.c1;refine ae 12 d ?_;obtain⟨_,d3⟩:=f.o.st.box.cell (o:=3) E5;obtain⟨⟨_,r1⟩,_⟩:=f.o.st.box.cell (o:=3) E5;have rz:=f.o.st.box.row.lt;refine ai 13 (λK b=>?_);go_simp
     refine af b (λh=>Nv rfl h) ?_;clear b K;refine aF ?_;go_wp2
     go_meet
     exact⟨cost,_,_,_,p+3,Q,E5,E5,f.o.els c (nG ⟨B,C⟩)⟩
   .have r:=Kz (n.o.kept (aV W));have T:=r.o.c1;have m7:IntKind.i64.wrap ((L.length:Int)-1)= (L.length:Int)-1:=G6;go_upto_region 23 with fail
    refine Qk.region F4 (λw'=>w'.cell? ⟨M.heap.size,1,none⟩=some (.b g L.length E)) 13 T (λd=>?_);generalize a4:W.drew=Z at r d⊢;clear a4 T;refine au 0 d ?_;refine ae 4 d ?_;refine ae 5 d ?_;refine bY 6 (.a ((L.length:Int)-1)) d ?_ ?_
    .intro u z;try dsimp only at z
     go_simp
     try with_reducible rfl
    try simp only[upP]
    refine ae 8 d ?_;refine ik 7 9 (λK b=>?_) (λK b=>?_)
    .rw[Nt G5];go_simp
     have G:K_ Z (Z.alloc (.cells #[.a (-2),.a (-1),.a (L.length:Int),.a ((L.length:Int)-1)] 3)):=ah _ _;have j:=Kz (r.o.kept G);refine af b (λ_=>j.o.c1) ?_;clear b K;clear d G;refine aG 9 (λK b=>?_);go_simp
     go_at_call 19
     refine (aM _ y a D A (p+2) _ 4 rfl j.o.st.rd E5 E5 P).mono ?_;rintro e l ⟨q,rfl,hq,k,i⟩;have f:=Kz (j.o.drawn k i);obtain⟨c,x,B,C⟩:=uY [-2, -1,(L.length:Int),(L.length:Int)-1] i r.o.st.rd.row.lt q (by show q<4;omega) (λc x=>by simp at x;omega);have lz:Z.heap.size<l.heap.size:=Nat.lt_of_lt_of_le E9 i.size;clear k i;dsimp only;refine af b (λ_=>f.o.c1) ?_;clear b K;have b9:(q:Int)<4:=E5;refine ai 10 (λK b=>?_);go_simp
     refine af b (λ_=>f.o.c1) ?_;clear b K;refine ai 11 (λK b=>?_);go_simp
     refine af b (λ_=>f.o.c1) ?_;clear b K;have d:=f.o.c1;refine ae 12 d ?_;obtain⟨_,d3⟩:=f.o.st.box.cell (o:=4) E5;obtain⟨⟨_,r1⟩,_⟩:=f.o.st.box.cell (o:=4) E5;have rz:=f.o.st.box.row.lt;refine ai 13 (λK b=>?_);go_simp
     refine af b (λh=>Nv rfl h) ?_;clear b K;refine aF ?_;go_wp2
     go_meet
     exact⟨cost,_,_,_,p+3,Q,E5,E5,f.o.fall c ⟨B,C⟩⟩
    .rw[Nt G5];go_simp
     go_at_call 19
     refine (aM _ y a D A (p+2) _ 4 rfl r.o.st.rd E5 E5 P).mono ?_;rintro e l ⟨q,rfl,hq,k,i⟩;have j:=Kz (r.o.drawn k i);clear k i;dsimp only;refine af b (λ_=>j.o.c1) ?_;clear b K;clear d;refine aG 7 (λK b=>?_);go_simp
     have G:K_ l (l.alloc (.cells #[.a (-2),.a (-1),.a (L.length:Int),.a ((L.length:Int)-1)] 3)):=ah _ _;have f:=Kz (j.o.kept G);obtain⟨c,x,B,C⟩:=wX l 3 [-2, -1,(L.length:Int),(L.length:Int)-1] q (by show q<4;omega) (λc x=>by simp at x;omega);clear G;have c1:(l.alloc (.cells #[.a (-2),.a (-1),.a (L.length:Int),.a ((L.length:Int)-1)] 3)).cell? ⟨l.heap.size,q,none⟩=some (.a c):=x;have lz:l.heap.size<(l.alloc (.cells #[.a (-2),.a (-1),.a (L.length:Int),.a ((L.length:Int)-1)] 3)).heap.size:=E9;clear x;refine af b (λ_=>f.o.c1) ?_;clear b K;generalize c2:l.alloc (.cells #[.a (-2),.a (-1),.a (L.length:Int),.a ((L.length:Int)-1)] 3)=wE at f c1 lz⊢;clear c2;have b9:(q:Int)<4:=E5;refine ai 10 (λK b=>?_);go_simp
     refine af b (λ_=>f.o.c1) ?_;clear b K;refine ai 11 (λK b=>?_);go_simp
     refine af b (λ_=>f.o.c1) ?_;clear b K;have d:=f.o.c1;refine ae 12 d ?_;obtain⟨_,d3⟩:=f.o.st.box.cell (o:=4) E5;obtain⟨⟨_,r1⟩,_⟩:=f.o.st.box.cell (o:=4) E5;have rz:=f.o.st.box.row.lt;refine ai 13 (λK b=>?_);go_simp
     refine af b (λh=>Nv rfl h) ?_;clear b K;refine aF ?_;go_wp2
     go_meet
     exact⟨cost,_,_,_,p+3,Q,E5,E5,f.o.fall c ⟨B,C⟩⟩
   .have r:=Kz (n.o.kept (aV W));have T:=r.o.st.box.c2;have y1:=r.o.c1;have p9:IntKind.i64.wrap ((L.length:Int)+2)= (L.length:Int)+2:=G6;go_upto_region 25 with fail
    refine Qk.region F4 (λw'=>w'.cell? ⟨Y.heap.size,2,none⟩=some (.slice ac s.cases.length cc)/\w'.cell? ⟨M.heap.size,1,none⟩=some (.b g L.length E)) 17 ⟨T,y1⟩ (λd=>?_);generalize a4:W.drew=Z at r d⊢;clear a4 T y1;refine ae 0 d ?_;refine ae 1 d ?_;refine ae 2 d ?_;refine au 6 d ?_;refine bY 10 (.a ((L.length:Int)+2)) d ?_ ?_
    .intro u z;try dsimp only at z
     go_simp
     try with_reducible rfl
    try simp only[upP]
    refine aG 3 (λK b=>?_);go_simp
    go_at_call 19
    refine (aM _ y a D A (p+2) _ 2 rfl r.o.st.rd E5 E5 P).mono ?_;rintro e l ⟨q,rfl,hq,k,i⟩;have j:=Kz (r.o.drawn k i);clear k i;dsimp only;refine af b (λ_=>⟨j.o.st.box.c2,j.o.c1⟩) ?_;clear b K;clear d r;have d:=(show _/\_ from ⟨j.o.st.box.c2,j.o.c1⟩);have m6:IntKind.i64.wrap (200+ (q:Int))=200+ (q:Int):=G6;refine bY 4 (.a (200+ (q:Int))) d ?_ ?_
    .intro u z;try dsimp only at z
     go_simp
     try with_reducible rfl
    try simp only[upP]
    refine aG 5 (λK b=>?_);go_simp
    go_at_call 163
    refine (uW _ ⟨#[116]⟩ _ (200+q) (by push_cast;rfl) E5 E8).mono ?_;rintro e w6 ⟨⟨J,rfl,t⟩,h3⟩;have d2:J.size<=300:=by have e1:(⟨#[116]⟩:NG).size=1:=rfl;rw[e1] at t;omega
    subst h3;dsimp only;refine af b (λ_=>⟨j.o.st.box.c2,j.o.c1⟩) ?_;clear b K;refine aG 11 (λK b=>?_);go_simp
    go_at_call 19
    refine (aM _ y a D A (p+3) _ (L.length+2) (by push_cast;rfl) j.o.st.rd E5 E5 P).mono ?_;rintro e w7 ⟨R,rfl,k7,k8,k9⟩;have f:=Kz (j.o.drawn k8 k9);clear k8 k9;dsimp only;refine af b (λ_=>⟨f.o.st.box.c2,f.o.c1⟩) ?_;clear b K;clear d;have d:=(show _/\_ from ⟨f.o.st.box.c2,f.o.c1⟩);have q0:IntKind.i64.wrap ((R:Int)-1)= (R:Int)-1:=G6;refine bY 12 (.a ((R:Int)-1)) d ?_ ?_
    .intro u z;try dsimp only at z
     go_simp
     try with_reducible rfl
    try simp only[upP]
    refine ae 13 d ?_;refine ai 14 (λK b=>?_);go_simp
    have X:K_ w7 (w7.alloc (.cells #[.string J,.a ((R:Int)-1)] 231)):=ah _ _;have O:=Kz (f.o.kept X);have a3:=Kz X;refine af b (λ_=>⟨O.o.st.box.c2,O.o.c1⟩) ?_;clear b K;clear d X;obtain⟨ic,a5,B,C,a6⟩:=aP Tryz.pU;refine ai 15 (λK b=>?_);refine step_append_lies _ rfl (.tmp 122) (.tmp 135) 174 rfl N.heap.size 231 ic _ 2 24 underlying174 a5 B C a6 rfl E8 (.slice ac s.cases.length cc) s.cases.length (bi s.cases) F8 O.o.st.cases ⟨w7.heap.size,0,none⟩ 1 1 [.string J,.a ((R:Int)-1)] F8 rfl (λa1 u z=>by rw[MZ];exact X_ w7 #[.string J,.a ((R:Int)-1)] 231 a1 u (by simpa using z)) (λu z=>by simp at z;rcases z with rfl | rfl <;> rfl) E5 F5 E5 O.o.st.kb.size _ rfl ?_;intro g2 e9 w8 a7 V a0 b1;have H:=Kz (f.o.st.A_ a3.o V);have b0:=Kz (f.o.su (x:=⟨J,(R:Int)-1⟩) a3.o a7 V (vU a0) E5 ⟨d2,by show -1000<=(R:Int)-1;omega,by show (R:Int)-1<=1000;omega⟩);have b3:=Kz (f.o.Kh a3.o V);have z6:=H.o.row.lt;have y6:=H.o.c2;obtain⟨_,f6⟩:=H.o.cell (o:=2) E5;clear a7 V a0 b1;refine af b (λ_=>⟨H.o.c2,b3.o⟩) ?_;clear b K;have d:=(show _/\_ from ⟨H.o.c2,b3.o⟩);refine ae 16 d ?_;refine ai 17 (λK b=>?_);go_simp
    refine af b (λh=>Nv rfl h) ?_;clear b K;refine aF ?_;go_wp2
    go_meet
    exact⟨cost,_,_,_,p+4,Q,E5,E5,b0.o⟩
   .go_wp2_with fail
    refine (aM _ y a D A (p+2) _ 2 rfl n.o.st.rd E5 E5 P).mono ?_;rintro e l ⟨q,rfl,hq,k,i⟩;have j:=Kz (n.o.drawn k i);clear k i e8 y5 y6 y3 f5 f6 f3 f7;go_wp2
    go_loopg [] (5+q-s.cases.length) (λgg wr=>∃(vc:NJ) (v:Xq),gg=5+q-v.cases.length/\eB (mN+10) N wr y M.heap.size Y.heap.size a D A (p+3) cost (.b g L.length E) L xs U (.slice aa s.asks.length ca) vc v)
    case atStart=>exact⟨_,s,rfl,j.o⟩
    case round=>
     clear j;obtain⟨vc,v,l0,hS⟩:=hrel;have I:=Kz hS;clear hS;obtain⟨h5,h6,rfl⟩:=ay I.o.st.cases;have y2:=I.o.st.box.c2;have yz:=I.o.st.box.row.lt;by_cases l1:(v.cases.length:Int)<5+ (q:Int)
     .have k1:K_ wr (wr.alloc (.cells #[.string ⟨#[118,48,40,41]⟩,.a 0] 231)):=ah _ _;have a2:=Kz k1;have b2:=Kz (I.o.kept k1).st.cases;have h7:N.heap.size<=(wr.alloc (.cells #[.string ⟨#[118,48,40,41]⟩,.a 0] 231)).heap.size:=(I.o.kept k1).st.kb.size;have h8:Hid (∀a1 u,([.string ⟨#[118,48,40,41]⟩,.a 0]:List NJ)[a1]? =some u->(wr.alloc (.cells #[.string ⟨#[118,48,40,41]⟩,.a 0] 231)).cell? ((⟨wr.heap.size,0,none⟩:Addr).add a1)=some u):=λa1 u z=>by rw[MZ];exact X_ wr #[.string ⟨#[118,48,40,41]⟩,.a 0] 231 a1 u z
      have d4:Hid (∀u∈([.string ⟨#[118,48,40,41]⟩,.a 0]:List NJ),u.oneCell'=true):=λu z=>by simp at z;rcases z with rfl | rfl <;> rfl
      obtain⟨ic,a5,B,C,a6⟩:=aP Tryz.pU;clear k1;go_wp2_with (at_builtin;refine wpList_append_lies _ rfl (.tmp 149) (.tmp 151) 174 rfl N.heap.size 231 ic _ 2 24 underlying174 a5 B C a6 rfl E8 (.slice h5 v.cases.length h6) v.cases.length (bi v.cases) rfl b2.o ⟨wr.heap.size,0,none⟩ 1 1 [.string ⟨#[118,48,40,41]⟩,.a 0] rfl rfl h8.o d4.o E5 F5 E5 h7 _ rfl ?_;intro g2 e9 w2 c6 a8 a0 b1;have b4:=I.o.st.A_ a2.o a8;have y4:=b4.c2;have z2:=b4.row.lt;obtain⟨_,f2⟩:=b4.cell (o:=2) E5;have h9:=Kz c6;have i0:=Kz a8;have f0:=Kz a0;clear c6 a8 b4 a0 b1)
      go_roundg (gk-1)
      case measure=>omega
      case rel=>exact⟨_,{v with cases:=v.cases++ [⟨⟨#[118,48,40,41]⟩,0⟩]},by show gk-1=5+q-(v.cases++ [_]).length;rw[MU];show gk-1=5+q-(v.cases.length+1);omega,I.o.su (x:=⟨⟨#[118,48,40,41]⟩,0⟩) a2.o h9.o i0.o (vU f0.o) E5 ⟨E8,E8,E8⟩⟩
     .go_wp2
      go_meet
      exact⟨cost,_,_,v,p+3,Q,E5,E5,I.o⟩
   .go_wp2_with fail
    refine (aM _ y a D A (p+2) _ 2 rfl n.o.st.rd E5 E5 P).mono ?_;rintro e l ⟨q,rfl,hq,k,i⟩;have j:=Kz (n.o.drawn k i);clear k i e8 y5 y6 y3 f5 f6 f3 f7;go_wp2
    go_loopg [10] (5+q-s.asks.length) (λgg J wr=>∃(b5:Nat) (va:NJ) (v:Xq),J= .a (b5:Int)/\gg=5+q-v.asks.length/\b5+s.asks.length=v.asks.length/\eB (mN+10) N wr y M.heap.size Y.heap.size a D A (p+3) cost (.b g L.length E) L xs U va (.slice ac s.cases.length cc) v)
    case atStart=>exact⟨0,_,s,rfl,rfl,E5,j.o⟩
    case round=>
     clear j;obtain⟨b5,va,v,rfl,l0,hi,hS⟩:=hrel;have⟨I,HI⟩:=aH hS hi;clear hS hi;obtain⟨f1,f4,rfl⟩:=ay I.o.st.asks;have y2:=I.o.st.box.c0;have yz:=I.o.st.box.row.lt;by_cases l1:(v.asks.length:Int)<5+ (q:Int)
     .have m8:b5<10:=by have:=HI.o;omega
      have f8:=Kz (I.o.kept (aV wr));have T:=f8.o.st.box.c0;go_upto_region 35 with fail
      refine Qk.region F4 (λw'=>w'.cell? ⟨Y.heap.size,0,none⟩=some (.slice f1 v.asks.length f4)) 8 T (λd=>?_);generalize a4:wr.drew=Z at f8 d⊢;clear a4 T;refine ae 0 d ?_;refine ae 1 d ?_;refine ae 2 d ?_;refine aG 3 (λK b=>?_);go_simp
      go_at_call 191
      refine (tC _ b5 m8).mono ?_;rintro e f9 ⟨i1,rfl,ht,l2⟩;have d5:=Kz (f8.o.kept l2);clear l2;dsimp only;refine af b (λ_=>d5.o.st.box.c0) ?_;clear b K;clear d f8;have d:=d5.o.st.box.c0;obtain⟨tx,l3⟩:∃tx:NG,(⟨#[109,97,110,121]⟩:NG)++i1=tx:=⟨_,rfl⟩;have m9:tx.size<=300:=by rw[<-l3,ByteArray.size_append];show 4+i1.size<=300;omega
      have f5:¬9223372036854775807<4+i1.size:=E5;refine bY 4 (.string tx) d ?_ ?_
      .intro u z;try dsimp only at z
       go_simp
       try with_reducible rfl
      try simp only[upP]
      clear l3 f5 ht;refine ai 5 (λK b=>?_);go_simp
      have X:K_ f9 (f9.alloc (.cells #[.string tx] 9)):=ah _ _;have i2:=Kz (d5.o.kept X);have a3:=Kz X;refine af b (λ_=>i2.o.st.box.c0) ?_;clear b K;clear X d;obtain⟨ic,a5,B,C,a6⟩:=aP Tryz.gJ;refine ai 6 (λK b=>?_);refine step_append_lies _ rfl (.tmp 167) (.tmp 171) 26 rfl N.heap.size 9 ic _ 1 16 underlying26 a5 B C a6 rfl E8 (.slice f1 v.asks.length f4) v.asks.length (v.asks.map Value.string) F8 i2.o.st.asks ⟨f9.heap.size,0,none⟩ 1 1 [.string tx] F8 rfl (kU f9 tx) (ko tx) E5 F5 E5 i2.o.st.kb.size _ rfl ?_;intro g2 e9 w8 a7 V a0 b1;have H:=Kz (d5.o.st.t_ a3.o V);have n0:=Kz (d5.o.pq (x:=tx) a3.o a7 V (vU a0) E5 m9);have z6:=H.o.row.lt;have y6:=H.o.c0;obtain⟨_,f6⟩:=H.o.cell (o:=0) E5;clear a7 V a0 b1;refine af b (λ_=>H.o.c0) ?_;clear b K;have d:=H.o.c0;refine ae 7 d ?_;refine ai 8 (λK b=>?_);go_simp
      refine af b (λh=>Nv rfl h) ?_;clear b K;refine aF ?_;go_wp2
      go_roundg (gk-1)
      case measure=>omega
      case rel=>exact⟨b5+1,_,{v with asks:=v.asks++ [tx]},F3,by show gk-1=5+q-(v.asks++ [_]).length;rw[MU];show gk-1=5+q-(v.asks.length+1);omega,by show b5+1+s.asks.length= (v.asks++ [_]).length;rw[MU];have:=HI.o;show b5+1+s.asks.length=v.asks.length+1;omega,n0.o⟩
     .go_wp2
      go_meet
      exact⟨cost,_,_,v,p+3,Q,E5,E5,I.o⟩
   .have i3:=Kz (n.o.act k5.o);go_wp2_with fail
    refine (aM _ y a D A (p+2) _ 2 rfl i3.o.rd E5 E5 P).mono ?_;rintro e l ⟨q,rfl,hq,k,i⟩;have f0:=Kz (i3.o.drawn k i);clear k i e8 y5 y6 y3 f5 f6 f3 f7 i3;go_wp2
    go_loopg [] (20+q-L.length) (λgg wr=>∃(v':NJ) (L':List Xq) (i4:List NJ),gg=20+q-L'.length/\L'.length<=21/\jE (mN+10) N wr y M.heap.size a D A (p+3) cost v' L' i4)
    case atStart=>exact⟨_,L,xs,rfl,hL,f0.o⟩
    case round=>
     clear f0;obtain⟨v',L',i4,l0,n1,hS⟩:=hrel;have I:=Kz hS;clear hS;obtain⟨av,d0,rfl⟩:=ay I.o.own;have y1:=I.o.c1;have yz:=I.o.row.lt;by_cases l1:(L'.length:Int)<20+ (q:Int)
     .have k1:K_ wr (wr.alloc (.cells #[M0,.a 0,M0,.a 0,.a 0,.bool true,.bool false,.string ⟨#[]⟩] 176)):=ah _ _;have a2:=Kz k1;have b2:=Kz (I.o.kept k1).own;have h7:N.heap.size<=(wr.alloc (.cells #[M0,.a 0,M0,.a 0,.a 0,.bool true,.bool false,.string ⟨#[]⟩] 176)).heap.size:=(I.o.kept k1).kb.size;have h8:Hid (∀a1 u,([M0,.a 0,M0,.a 0,.a 0,.bool true,.bool false,.string ⟨#[]⟩]:List NJ)[a1]? =some u->(wr.alloc (.cells #[M0,.a 0,M0,.a 0,.a 0,.bool true,.bool false,.string ⟨#[]⟩] 176)).cell? ((⟨wr.heap.size,0,none⟩:Addr).add a1)=some u):=λa1 u z=>by rw[MZ];exact X_ wr #[M0,.a 0,M0,.a 0,.a 0,.bool true,.bool false,.string ⟨#[]⟩] 176 a1 u z
      have d4:Hid (∀u∈([M0,.a 0,M0,.a 0,.a 0,.bool true,.bool false,.string ⟨#[]⟩]:List NJ),u.oneCell'=true):=jd ⟨[],0,[],0,0,true,false,⟨#[]⟩⟩ none 0 none 0;obtain⟨ic,a5,B,C,a6⟩:=aP Tryz.jX;clear k1;go_wp2_with (at_builtin;refine wpList_append_own _ rfl (.tmp 185) (.tmp 187) 71 rfl N.heap.size 176 ic _ 8 96 underlying71 a5 B C a6 rfl E8 (.slice av L'.length d0) L'.length i4 rfl b2.o ⟨wr.heap.size,0,none⟩ 1 1 [M0,.a 0,M0,.a 0,.a 0,.bool true,.bool false,.string ⟨#[]⟩] rfl rfl h8.o d4.o F5 E5 h7 ?_;intro v2 w2 c6 a8 _;have b4:=I.o.fK a2.o a8;have z2:=b4.2.lt;obtain⟨⟨_,y2⟩,f2⟩:=b4.2.row.at (i:=1) E5;have h9:=Kz c6;obtain⟨q1,q2,rfl⟩:=ay c6;have i0:=Kz a8;clear c6 a8 b4)
      go_roundg (gk-1)
      case measure=>omega
      case rel=>exact⟨_,L'++ [⟨[],0,[],0,0,true,false,⟨#[]⟩⟩],_,by rw[MU];show gk-1=20+q-(L'.length+1);omega,by rw[MU];show L'.length+1<=21;omega,I.o.push (s:=⟨[],0,[],0,0,true,false,⟨#[]⟩⟩) (cs:=[M0,.a 0,M0,.a 0,.a 0,.bool true,.bool false,.string ⟨#[]⟩]) a2.o ⟨none,0,none,0,rfl,.inl rfl,.inl rfl,Me _⟩ ⟨E9,λJ t=>by simp at t,⟨I1,I4⟩,E9,λJ t=>by simp at t,nG ⟨I1,I4⟩,⟨I1,I4⟩,E8⟩ (jU (s:=⟨[],0,[],0,0,true,false,⟨#[]⟩⟩) (λ_=>⟨rfl,rfl⟩) (λ_=>⟨rfl,rfl⟩)) h9.o i0.o⟩
     .have S:=Kz I.o.fin;have F:=Kz (d6.o.but S.o.kb E5);have o0:=S.o.c0;obtain⟨⟨_,x0⟩,g5⟩:=F.o.row.at (i:=0) E5;obtain⟨⟨_,x1⟩,g1⟩:=F.o.row.at (i:=1) E5;have xz:=F.o.lt;go_wp2_with fail
      have hR:=Mi wr (w.heap.size+1) 0 [.a cost,.slice av L'.length d0] (F.o.row.there (o:=0) (m:=2) (Me _));exact Zx [.a cost,.slice av L'.length d0] _ results164 rfl hR underlying73 rfl Tryz.iE rfl (S.o.ends F.o E5 k0 d7.o rfl E5 E5 n1 Q)
   .have o1:=n.o.c1;have oz:=n.o.row.lt;obtain⟨_,fo⟩:=n.o.row.row.at (i:=1) E5;have S:=Kz n.o.cut;have F:=Kz (d6.o.but S.o.kb E5);have o0:=S.o.c0;have n2:=S.o.c1;have n3:=S.o.row.lt;obtain⟨⟨_,x0⟩,g5⟩:=F.o.row.at (i:=0) E5;obtain⟨⟨_,x1⟩,g1⟩:=F.o.row.at (i:=1) E5;have xz:=F.o.lt;have q3:(U:Int)<=(E:Int):=E5;go_wp2_with fail
    have hR:=Mi (W.setCell ⟨M.heap.size,1,none⟩ (.b g U E)) (w.heap.size+1) 0 [.a cost,.b g U E] (F.o.row.there (o:=0) (m:=2) (Me _));exact Zx [.a cost,.b g U E] _ results164 rfl hR underlying73 rfl Tryz.iE rfl (S.o.ends F.o E5 k0 d7.o rfl E5 E5 G9 Q)
   .go_wp2
    go_meet
    exact⟨cost,_,_,_,p+2,Q,E5,E5,n.o.els _ (in64_wrap64 _)⟩
  case rest=>
   clear n k5 e8;obtain⟨l4,va,vc,v,p',n4,q4,q5,hX⟩:=hcut;obtain⟨f1,f4,rfl⟩:=ay hX.st.asks;obtain⟨h5,h6,rfl⟩:=ay hX.st.cases;have n:=Kz hX;clear hX;have o1:=n.o.c1;have oz:=n.o.row.lt;have sz:=n.o.st.box.row.lt;obtain⟨cs,b8⟩:=aj (v.cells f1 f4 h5 h6);have g0:cs.length=8:=by rw[b8];rfl
   have l5:cs.toArray.all (·.oneCell')=true:=by rw[b8];exact Xq.one v _ _ _ _
   have l6:wc.rangeAt Y.heap.size 0 cs:=by
    rw[b8];have hb:=n.o.st.box;intro a1 J t;rw[MM]
    match a1,t with
    | 0,t=>simp[Xq.cells] at t;subst t;exact hb.c0
    | 1,t=>simp[Xq.cells] at t;subst t;exact hb.c1
    | 2,t=>simp[Xq.cells] at t;subst t;exact hb.c2
    | 3,t=>simp[Xq.cells] at t;subst t;exact hb.c3
    | 4,t=>simp[Xq.cells] at t;subst t;exact hb.c4
    | 5,t=>simp[Xq.cells] at t;subst t;exact hb.c5
    | 6,t=>simp[Xq.cells] at t;subst t;exact hb.c6
    | 7,t=>simp[Xq.cells] at t;subst t;exact hb.c7
    | a1+8,t=>simp[Xq.cells] at t
   have n5:=Kz l6;have a8:aD wc g 176 (E*8):=by
    rcases n.o.own.2 with⟨e,_⟩|⟨g',d0,n6,e,_,n7,_,_,n8,_⟩
    .simp at e
    .simp only[MW,MV,ND,and_true,true_and] at e;obtain⟨rfl,rfl⟩:=e;exact⟨n6,n7,n8⟩
   have gz:=a8.lt;have l7:wc.there g (U*8) cs.toArray.size:=by simpa[g0] using a8.row.there (o:=U*8) (m:=8) E5
   have l8:(prog.info? 176).map (·.size)=some cs.toArray.size:=by rw[Tryz.zL];simp[g0]
   have l9:(prog.info? 176).map (·.size)=some cs.length:=by rw[Tryz.zL,g0]
   have⟨n9,o2,o3,d4⟩:=mM l8 l9 l7 l5;have i5:=n.o.store;rw[<-b8] at i5;have S:=Kz i5;have F:=Kz (d6.o.but S.o.kb E5);have o0:=S.o.c0;have n2:=S.o.c1;have n3:=S.o.row.lt;obtain⟨⟨_,x0⟩,g5⟩:=F.o.row.at (i:=0) E5;obtain⟨⟨_,x1⟩,g1⟩:=F.o.row.at (i:=1) E5;have xz:=F.o.lt;clear b8 g0 l5 l6 a8 l7 l8 l9 i5;go_wp2_with (first | (refine wpList_load_mid rfl 176 _ rfl Y.heap.size 0 rfl cs _ n5.o underlying176 rfl o2.o ?_) | (refine wpList_store_mid rfl 176 _ _ rfl g (U*8) cs.toArray rfl rfl o3.o n9.o d4.o ?_;rw[List.toList_toArray]))
   have hR:=Mi (wc.setCells g (U*8) cs) (w.heap.size+1) 0 [.a l4,.b g L.length E] (F.o.row.there (o:=0) (m:=2) (Me _));refine Zx [.a l4,.b g L.length E] _ results164 rfl hR underlying73 rfl Tryz.iE rfl (S.o.ends F.o E5 k0 d7.o rfl E5 E5 (by rw[Np];omega) n4)
variable {hi lo : Nat} {a : NH} {w : NI}
theorem bX.setCell{l:List NG}(h:bX w lo hi a l){p:Addr}(c:p.block<lo)(v:NJ):bX (w.setCell p v) lo hi a l:=h.same (Same.setCell _ (.inl c) _)
theorem Same.setCells{g:Nat}(a:g<lo\/hi<=g):∀(vs:List NJ) (o:Nat) (w:NI),Same lo hi w (w.setCells g o vs)
 | [],_,_=>λ_ _ _ _=>rfl
 | v :: r,o,w=>by
  rw[World.setCells];intro b c d e;have f:=Same.setCells a r (o+1) (w.setCell ⟨g,o,none⟩ v) b c d (by rw[size_setCell];exact e);exact f.trans (Same.setCell w (p:=⟨g,o,none⟩) a v b c d e)
def cutAt(c:Nat->Nat)(k z t:Nat):Nat:=if t<=k then c t else z
theorem kF{c:Nat->Nat}{k z t:Nat}(h:t<=k):cutAt c k z t=c t:=by simp[cutAt,h]
theorem oM{c:Nat->Nat}{k z t:Nat}(h:k<t):cutAt c k z t=z:=by simp[cutAt];omega
theorem Da{c:Nat->Nat}{k z:Nat}(h:∀i j,i<=j->c i<=c j)(b:c k<=z):∀i j,i<=j->cutAt c k z i<=cutAt c k z j:=by
 intro i j d;by_cases a:i<=k
 .by_cases e:j<=k
  .rw[kF a,kF e];exact h i j d
  .rw[kF a,oM E5];exact Mh (h i k a) b
 .rw[oM E5,oM E5];exact Me _
structure fC where
 name:NG
 over:Bool
 fail:Bool
 text:NG
def fC.zero :fC:=⟨⟨#[]⟩,false,false,⟨#[]⟩⟩
def fC.cells(r:fC):List NJ:=[.string r.name,.bool r.over,.bool r.fail,.string r.text]
def qK(w:NI)(a:NH)(l:List fC):Prop:=
 ∀i,i<l.length->∃b o,a=some ⟨b,o,none⟩/\b<w.heap.size/\w.rangeAt b (o+i*4) (l.getD i fC.zero).cells
variable {l : List fC}
theorem qK.kept{w':NI}(h:qK w a l)(k:K_ w w'):qK w' a l:=by
 intro i c;obtain⟨d,o,e,b,f⟩:=h i c;exact⟨d,o,e,Mf b k.size,k.range b f⟩
def il(w:NI)(lo hi:Nat)(a:NH)(l:List fC):Prop:=
 l=[]\/∃b,a=some ⟨b,0,none⟩/\lo<=b/\b<hi/\Row w b (l.length*4)/\∀i,i<l.length->w.rangeAt b (i*4) (l.getD i fC.zero).cells
theorem il.same{w':NI}(h:il w lo hi a l)(k:Same lo hi w w'):il w' lo hi a l:=by
 rcases h with h|⟨b,f,c,d,e,i⟩
 .exact .inl h
 .exact .inr ⟨b,f,c,d,k.row c d e,λj hi=>k.range c d e.lt (i j hi)⟩
theorem il.mono{c d:Nat}(h:il w lo hi a l)(j:c<=lo)(h2:hi<=d):il w c d a l:=by
 rcases h with h|⟨b,e,k,m,f,i⟩
 .exact .inl h
 .exact .inr ⟨b,e,E5,E5,f,i⟩
theorem il.ress(h:il w lo hi a l):qK w a l:=by
 rcases h with rfl|⟨b,c,f,j,d,e⟩
 .intro i hi;simp at hi
 .intro i hi;exact⟨b,0,c,d.lt,by rw[MM];exact e i hi⟩
