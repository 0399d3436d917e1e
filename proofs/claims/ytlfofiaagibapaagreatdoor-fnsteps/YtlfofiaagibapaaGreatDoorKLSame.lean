import Derived.Test.YtlfofiaagibapaaGreatDoorKCResO
import Derived.Deep.AppendLies
import Derived.Laws.AppendOwnNone
set_option maxRecDepth 100000
set_option maxHeartbeats 25600000
namespace Go.Proofs.YtlfofiaagibapaaGreatDoor
open Go.RowKit Go.Proofs.Tryz
def AO(w:NN)(v:NP)(L:List Xq):Prop:=∃base xs,w.ownsRow base 128 8 v L.length xs/\fE w 9 131 xs L/\kQ xs
def rO(w w':NN)(rb:Nat)(a:NM)(cap:Nat)(bs:List UInt8)(p t:Nat)(e:Ending):Prop:=∃(cost:Int)(v:NP)(L:List Xq)(p':Nat),e=.returned (.agg #[.a cost,v])/\p<=p'/\p'<=p+t/\1<=L.length/\L.length<=20/\(-1000<=cost/\cost<=1000)/\(∀s∈L,s.Tiny)/\
  AO w' v L/\Rd w' rb a cap bs p'/\Xj rb (rb+1) w w'
variable {bs:List UInt8}{cap p rb:Nat}{a:NM}{w w1:NN}
theorem ASt.made{b:Nat}(e:Rd w rb a cap bs b)(h:Rd w1 rb a cap bs p)(k:Xj rb (rb+1) w w1)(cost:Int):ASt w (w1.alloc (.cells #[.a cost,M3] 31)) rb w1.heap.size a cap bs p cost M3 [] []:=by
 have c:=X_ w1 #[.a cost,M3] 31;have d:K_ w1 (w1.alloc (.cells #[.a cost,M3] 31)):=ah _ _;exact⟨h.kept d,⟨b,e⟩,k.size,k.fV d,ay.made w1 _ _,c 0 _ rfl,c 1 _ rfl,Nj _ _ _ _,fE.nil _ _ _,λs f=>by simp at f,λn j i=>by simp at i⟩
theorem SSt.made{W:NN}(h:Rd W rb a cap bs p){els fall:Int}(e: -1000<=els/\els<=1000)(f: -1000<=fall/\fall<=1000):SSt W (W.alloc (.cells #[M3,.a 0,M3,.a els,.a fall,.bool false,.bool false,.string ⟨#[]⟩] 128)) rb W.heap.size a cap bs p M3 M3 ⟨[],0,[],els,fall,false,false,⟨#[]⟩⟩:=by
 have d:K_ W (W.alloc (.cells #[M3,.a 0,M3,.a els,.a fall,.bool false,.bool false,.string ⟨#[]⟩] 128)):=ah _ _;exact⟨h.kept d,⟨p,h⟩,Mj _,.ax d,dG.made W els fall,Nj _ _ _ _,Nj _ _ _ _,⟨E9,λx b=>by simp at b,⟨I1,I4⟩,E9,λx b=>by simp at b,nV e,f,by show (⟨#[]⟩:NL).size<=300;decide⟩⟩
theorem CX(w:NN)(a:NM)(cap m:Nat)(l:List NL)(c:l.length=m)(i:l.length<=1000)(d:∀s∈l,s.size<=1000)(f:Strs w a l):Calls prog 79 #[.slice a m cap] w λe w'=>(∃b:Bool,e=.returned (.bool b))/\K_ w w':=by
 subst c;refine (lV w a cap l F5 (λs h=>by have:=d s h;unfold maxLen;omega) f).mono ?_;rintro e w' ⟨⟨r,rfl,_⟩,k⟩;exact⟨⟨r,rfl⟩,k⟩
theorem lu(w:NN)(x:NL):∀j u,([.string x]:List NP)[j]? =some u->(w.alloc (.cells #[.string x] 9)).cell? ((⟨w.heap.size,0,none⟩:Addr).add j)=some u:=λj u a=>by
 rw[Nf];exact X_ w #[.string x] 9 j u a
theorem kM(x:NL):∀u∈([.string x]:List NP),u.oneCell'=true:=λu a=>by simp at a;subst a;rfl
variable {xs:List NP}{v:NP}{A0:NN}
theorem jO.ends{b:NN}{m:Nat}{p' t:Nat}{cost:Int}{c:List Xq}{e:Ending}(h:jO 20 A0 b rb m a cap bs p' cost v c xs)(d:ay b w.heap.size 31 2)(k0:K_ w A0){n:Nat}(q:Rd w rb a cap bs n)(r:e=.returned (.agg #[.a cost,v]))(s:p<=p')(h2:p'<=p+t)(x:1<=c.length)(y:c.length<=20)(z: -1000<=cost/\cost<=1000):rO w ((b.setCell ⟨w.heap.size,0,none⟩ (.a cost)).setCell ⟨w.heap.size,1,none⟩ v) rb a cap bs p t e:=by
 have A:=d.same (o:=0) (.a cost);have B:=(d.set (o:=0) (.a cost)).same (o:=1) v;have f:=A.trans B;have i:Below w.heap.size b ((b.setCell ⟨w.heap.size,0,none⟩ (.a cost)).setCell ⟨w.heap.size,1,none⟩ v):=((Below.refl _ _).setCell (p:=⟨w.heap.size,0,none⟩) (Mj _) _).setCell (p:=⟨w.heap.size,1,none⟩) (Mj _) _;have j:Xj rb (rb+1) w b:=⟨h.kb.os.trans k0.os,h.kb.tape.trans k0.tape,h.kb.output.trans k0.output,Mm k0.size h.kb.size,λk l C=>(h.kb.block k (Mk l k0.size) C).trans (k0.block k l)⟩;exact⟨cost,v,c,p',r,s,h2,x,y,z,h.tiny,⟨_,xs,aV h.own f E8,h.pack.same f E8 E8,h.oJ⟩,h.rd.below q i j.size,j.below i⟩
def LX(A0:NN)(ab rb:Nat)(a:NM)(cap:Nat)(bs:List UInt8)(p:Nat)(s8:NP)(wx:NN):Prop:=∃(n1:Nat)(cost:Int)(p':Nat),s8=.a (1+(n1:Int))/\n1<=3/\(1<=cost/\cost<=20)/\p<=p'/\p'<=p+4/\ASt A0 wx rb ab a cap bs p' cost M3 [] []
def Le(A0:NN)(ab rb:Nat)(a:NM)(cap:Nat)(bs:List UInt8)(p:Nat)(s7:NP)(wx:NN):Prop:=∃(cost:Int),s7=.c ab/\(1<=cost/\cost<=20)/\ASt A0 wx rb ab a cap bs (p+2) cost M3 [] []
theorem Ce{a:Addr}{l:List NL}(h:Strs w (some a) l):∀j u,(l.map Value.string)[j]? =some u->w.cell? (a.add j)=some u:=by
 intro j u b;rw[List.getElem?_map] at b;obtain⟨x,d,rfl⟩:=Option.map_eq_some_iff.1 b;let⟨c,f⟩:=Mr.1 d;let⟨k,m,e,_,i⟩:=h j c;simp only[Na] at e;subst e;rw[Nf,i];simp[List.getD,c,f]
theorem AR{a:Addr}{l:List bU}(h:lm w (some a) l):∀j u,(bi l)[j]? =some u->w.cell? (a.add j)=some u:=by
 intro j u b;have k:j<l.length*2:=by rw[<-iP];exact (Mr.1 b).1
 have c:j / 2<l.length:=E5;have e:=lq l (j / 2) (j % 2) c E5;rw[show j / 2*2+j % 2=j by omega,b] at e;let⟨m,d,f,_,i⟩:=h (j / 2) c;simp only[Na] at f;subst f;have:=i (j % 2) u e.symm;rw[Nf];rw[show d+j / 2*2+j % 2=d+j by omega] at this;exact this
def kL(w:NN)(a:NM)(l:List Xq):Prop:=∀i,i<l.length->∃b o aa ca ac cc,a=some ⟨b,o,none⟩/\b<w.heap.size/\w.rangeAt b (o+i*8) ((l.getD i Xq.zero).cells aa ca ac cc)/\Strs w aa (l.getD i Xq.zero).asks/\lm w ac (l.getD i Xq.zero).cases/\
  (aa=none->(l.getD i Xq.zero).asks.length=0/\ca=0)/\(ac=none->(l.getD i Xq.zero).cases.length=0/\cc=0)
variable {l:List Xq}{w':NN}
theorem kL.kept(h:kL w a l)(k:K_ w w'):kL w' a l:=by
 intro i c;let⟨d,o,e,f,j,m,n,b,p,q,r,s,t⟩:=h i c;exact⟨d,o,e,f,j,m,n,Mk b k.size,k.range b p,q.kept k,r.kept k,s,t⟩
def iY(w:NN)(base:Nat)(cs:List NP)(s:Xq):Prop:=∃aa ca ac cc,cs=s.cells aa ca ac cc/\w.ownsRow base 9 1 (.slice aa s.asks.length ca) s.asks.length (s.asks.map Value.string)/\w.ownsRow base 131 2 (.slice ac s.cases.length cc) s.cases.length (bi s.cases)
variable {cs:List NP}{s:Xq}{u:TypeId}
theorem iY.same{base:Nat}(h:iY w base cs s)(k:aD u w w')(a:9≠u)(h2:131≠u):iY w' base cs s:=by
 let⟨b,c,d,e,f,i,j⟩:=h;exact⟨b,c,d,e,f,aV i k a,aV j k h2⟩
theorem iY.base{base base':Nat}(h:iY w base cs s)(a:base'<=base):iY w base' cs s:=by
 let⟨b,c,d,e,f,i,j⟩:=h;exact⟨b,c,d,e,f,dN i a,dN j a⟩
theorem iY.step{base:Nat}(h:iY w base cs s):lU w 9 131 cs s:=by
 let⟨k,l,m,n,e,c,d⟩:=h;let⟨p,q,a,f,i⟩:=dw c;let⟨r,t,b,j⟩:=lT d;simp only[Nb,true_and] at a b;obtain⟨rfl,rfl⟩:=a;obtain⟨rfl,rfl⟩:=b;exact⟨_,_,_,_,e,i,j,f⟩
theorem iY.oJ{base:Nat}(h:iY w base cs s):kQ cs:=by
 obtain⟨c,d,f,i,rfl,a,b⟩:=h;exact kD (λe=>by subst e;exact iV a) (λe=>by subst e;exact iV b)
def xC(cs:List NP):Option Nat:=(cs.getD 0 undef).ownBlock
def si(cs:List NP):Option Nat:=(cs.getD 2 undef).ownBlock
theorem iY.Df{base:Nat}(h:iY w base cs s):(∀b,xC cs=some b->base<=b/\b<w.heap.size)/\∀b,si cs=some b->base<=b/\b<w.heap.size:=by
 obtain⟨e,f,i,j,rfl,c,d⟩:=h;exact⟨λb a=>c.lt b a,λb a=>d.lt b a⟩
def lI(xs:List NP)(i:Nat):List NP:=(xs.drop (i*8)).take 8
structure eH (w:NN)(base:Nat)(xs:List NP)(l:List Xq):Prop where
 len:xs.length=l.length*8
 each:∀i,i<l.length->iY w base (lI xs i) (l.getD i Xq.zero)
 apart:∀i j,i<l.length->j<l.length->i≠j->(∀b,xC (lI xs i)=some b->xC (lI xs j)≠some b)/\∀b,si (lI xs i)=some b->si (lI xs j)≠some b
theorem eH.nil(w:NN)(base:Nat):eH w base [] []:=⟨rfl,λi a=>by simp at a,λi j a=>by simp at a⟩
theorem eH.same{base:Nat}(h:eH w base xs l)(k:aD u w w')(b:9≠u)(h2:131≠u):eH w' base xs l:=⟨h.len,λi d=>(h.each i d).same k b h2,h.apart⟩
theorem eH.packed{base:Nat}(h:eH w base xs l):fE w 9 131 xs l:=⟨h.len,λi c=>(h.each i c).step⟩
theorem eH.push{base H:Nat}(m:eH w base xs l)(d:iY w H cs s)(a:base<=H)(k:∀i,i<l.length->(∀b,xC (lI xs i)=some b->b<H)/\∀b,si (lI xs i)=some b->b<H):eH w base (xs++cs) (l++[s]):=by
 have p:cs.length=8:=by obtain⟨_,_,_,_,rfl,_⟩:=d;rfl
 have n:=m.len;have old:∀i,i<l.length->lI (xs++cs) i=lI xs i/\(l++[s]).getD i Xq.zero=l.getD i Xq.zero:=by
  intro i h;refine⟨?_,by simp[List.getD,Np h]⟩;unfold lI;rw[List.drop_append_of_le_length E5,List.take_append_of_le_length J8]
 have new:lI (xs++cs) l.length=cs/\(l++[s]).getD l.length Xq.zero=s:=by
  refine⟨?_,I8⟩;unfold lI;rw[<-n,List.drop_left,MU E5]
 refine⟨by simp only[M_,Nc,List.length_nil,n,p];omega,λi h=>?_,λi j h q r=>?_⟩
 .by_cases e:i<l.length
  .rw[(old i e).1,(old i e).2];exact m.each i e
  .obtain rfl:i=l.length:=by simp at h;omega
   rw[new.1,new.2];exact d.base a
 .simp only[M_,Nc,List.length_nil] at h q;by_cases e:i<l.length
  .by_cases f:j<l.length
   .rw[(old i e).1,(old j f).1];exact m.apart i j e f r
   .obtain rfl:j=l.length:=E5;rw[(old i e).1,new.1];exact⟨λb a c=>by have:=(k i e).1 b a;have:=(d.Df.1 b c).1;omega,λb a c=>by have:=(k i e).2 b a;have:=(d.Df.2 b c).1;omega⟩
  .obtain rfl:i=l.length:=E5;have f:j<l.length:=E5;rw[new.1,(old j f).1];exact⟨λb a c=>by have:=(k j f).1 b c;have:=(d.Df.1 b a).1;omega,λb a c=>by have:=(k j f).2 b c;have:=(d.Df.2 b a).1;omega⟩
structure CSt (w wr:NN)(a:NM)(n cap:Nat)(cost:Int)(v:NP)(L:List Xq)(xs:List NP):Prop where
 kept:K_ w wr
 KC:ay wr w.heap.size 31 2
 arg:wr.cell? ⟨w.heap.size,1,none⟩=some (.slice a n cap)
 res:ay wr (w.heap.size+1) 31 2
 out:ay wr (w.heap.size+2) 31 2
 o0:wr.cell? ⟨w.heap.size+2,0,none⟩=some (.a cost)
 o1:wr.cell? ⟨w.heap.size+2,1,none⟩=some v
 own:wr.ownsRow w.heap.size 128 8 v L.length xs
 pack:eH wr w.heap.size xs L
variable {L:List Xq}{n:Nat}{wr:NN}
theorem CSt.ax{cost:Int}(h:CSt w wr a n cap cost v L xs)(k:K_ wr w'):CSt w w' a n cap cost v L xs:=⟨h.kept.trans k,h.KC.kept k,(k.cell h.KC.lt).trans h.arg,h.res.kept k,h.out.kept k,(k.cell h.out.lt).trans h.o0,(k.cell h.out.lt).trans h.o1,au h.own k,h.pack.same (u:=125) (aD.ax k) E8 E8⟩
variable {w2:NN}
theorem CSt.fQ{cost:Int}(h:CSt w wr a n cap cost v L xs)(f:K_ wr w1)(i:w1.grownBy w2 v.ownBlock):w2.cell? ⟨w.heap.size+2,1,none⟩=some v/\ay w2 (w.heap.size+2) 31 2:=by
 have b:=h.ax f;have j:=aD.aI b.own i;let⟨c,d,k⟩:=b.out;have e:=j _ c _ _ E8 d;exact⟨by rw[MC (w:=w1) (e.trans d.symm)];exact b.o1,c,e,k⟩
variable {v':NP}
theorem CSt.push{f:NN}{cost:Int}(h:CSt w wr a n cap cost v L xs)(x:K_ wr f)(i:K_ f w1)(y:iY f wr.heap.size cs s)(z:w2.ownsRow w.heap.size 128 8 v' (L.length+1) (xs++cs))(j:w1.grownBy w2 v.ownBlock):CSt w (w2.setCell ⟨w.heap.size+2,1,none⟩ v') a n cap cost v' (L++[s]) (xs++cs):=by
 have b:=h.ax (x.trans i);have k:=aD.aI b.own j;have row:∀c,ay w1 c 31 2->ay w2 c 31 2/\∀o,w2.cell? ⟨c,o,none⟩=w1.cell? ⟨c,o,none⟩:=by
  intro c A;let⟨l,m,B⟩:=A;have d:=k _ l _ _ E8 m;exact⟨⟨l,d,B⟩,λo=>MC (w:=w1) (d.trans m.symm)⟩
 have p:=row _ b.KC;have C:=row _ b.res;have e:=row _ b.out;have q:=e.1.same (o:=1) v';have D:=h.kept.size;have E:eH w1 w.heap.size (xs++cs) (L++[s]):=b.pack.push (y.same (u:=125) (aD.ax i) E8 E8) D λr t=>⟨λc d=>((h.pack.each r t).Df.1 c d).2,λc d=>((h.pack.each r t).Df.2 c d).2⟩;refine⟨(aK b.kept (Mj _) b.own j).setCell E9 _,p.1.block (Below.heap_setCell _ _ _ _ E9),?_,C.1.block (Below.heap_setCell _ _ _ _ E9),e.1.set _,(Xk E5 _).trans ((e.2 0).trans b.o0),aR e.1.row E5 _,?_,(E.same k E8 E8).same q E8 E8⟩
 .rw[MJ _ _ _ _ E9];exact (p.2 1).trans b.arg
 .have:=aV z q E8;simpa using this
def CS1(wr wx:NN)(s:Xq)(v1 v2:NP):Prop:=K_ wr wx/\dG wx wr.heap.size v1 v2 s/\wx.ownsRow wr.heap.size 9 1 v1 s.asks.length (s.asks.map Value.string)
def CS2(wr wx:NN)(s:Xq)(v1 v2:NP):Prop:=CS1 wr wx s v1 v2/\wx.ownsRow wr.heap.size 131 2 v2 s.cases.length (bi s.cases)
def Lp(w w':NN)(cost:Int)(L:List Xq)(e:Ending):Prop:=∃(v:NP)(xs:List NP),e=.returned (.agg #[.a cost,v])/\w'.ownsRow w.heap.size 128 8 v L.length xs/\eH w' w.heap.size xs L/\K_ w w'
theorem dG.copied(w:NN)(s:Xq)(b:NM)(c:Nat)(d:NM)(e:Nat):dG (w.alloc (.cells #[.slice b s.asks.length c,.a s.on,.slice d s.cases.length e,.a s.els,.a s.fall,.bool s.fin,.bool s.bad,.string s.give] 128)) w.heap.size (.slice b s.asks.length c) (.slice d s.cases.length e) s:=by
 have f:=X_ w #[.slice b s.asks.length c,.a s.on,.slice d s.cases.length e,.a s.els,.a s.fall,.bool s.fin,.bool s.bad,.string s.give] 128;have a:∀j v,(#[.slice b s.asks.length c,.a s.on,.slice d s.cases.length e,.a s.els,.a s.fall,.bool s.fin,.bool s.bad,.string s.give]:Array NP).toList[j]? =some v->M4 (w.alloc (.cells #[.slice b s.asks.length c,.a s.on,.slice d s.cases.length e,.a s.els,.a s.fall,.bool s.fin,.bool s.bad,.string s.give] 128)) w.heap.size j v:=λj v h=>by
  have:=f j v h;rw[MR] at this;exact this
 exact⟨ay.made w _ _,a 0 _ rfl,a 1 _ rfl,a 2 _ rfl,a 3 _ rfl,a 4 _ rfl,a 5 _ rfl,a 6 _ rfl,a 7 _ rfl⟩
variable {xs0:List NP}{n0:Nat}{u0 v0:NP}{W1:NN}
theorem CS1.mk'{v1 v2:NP}(e:K_ wr W1)(f:dG W1 wr.heap.size v0 v2 s)(a:K_ W1 w1)(b:w1.ownsRow wr.heap.size 9 1 u0 n0 xs0)(c:w1.grownBy w2 u0.ownBlock)(h:w2.ownsRow wr.heap.size 9 1 v1 s.asks.length (s.asks.map Value.string)):CS1 wr (w2.setCell ⟨wr.heap.size,0,none⟩ v1) s v1 v2:=by
 have d:dG w2 wr.heap.size v0 v2 s:=(f.kept a).same (aD.aI b c) E8;exact⟨(aK (e.trans a) (Mj _) b c).setCell (Mj _) _,d.asks v1 s.asks,aV h (d.row.same _) E8⟩
theorem CS1.box{v2:NP}(a:dG W1 wr.heap.size v0 v2 s)(b:K_ W1 w1)(c:w1.ownsRow wr.heap.size 9 1 u0 n0 xs0)(d:w1.grownBy w2 u0.ownBlock):dG w2 wr.heap.size v0 v2 s:=(a.kept b).same (aD.aI c d) E8
theorem CS2.mk'{v1 v2:NP}(h:CS1 wr W1 s v1 v0)(a:K_ W1 w1)(c:w1.ownsRow wr.heap.size 131 2 u0 n0 xs0)(d:w1.grownBy w2 u0.ownBlock)(f:w2.ownsRow wr.heap.size 131 2 v2 s.cases.length (bi s.cases)):CS2 wr (w2.setCell ⟨wr.heap.size,2,none⟩ v2) s v1 v2:=by
 let⟨i,j,k⟩:=h;have e:=aD.aI c d;have b:dG w2 wr.heap.size v1 v0 s:=(j.kept a).same e E8;exact⟨⟨(aK (i.trans a) (Mj _) c d).setCell (Mj _) _,b.cases v2 s.cases,aV (aV (au k a) e E8) (b.row.same _) E8⟩,aV f (b.row.same _) E8⟩
theorem CS2.box{v1:NP}(h:CS1 wr W1 s v1 v0)(b:K_ W1 w1)(c:w1.ownsRow wr.heap.size 131 2 u0 n0 xs0)(d:w1.grownBy w2 u0.ownBlock):dG w2 wr.heap.size v1 v0 s:=(h.2.1.kept b).same (aD.aI c d) E8
theorem wK(w:NN)(r:Option Nat):w.grownBy w r:=⟨rfl,rfl,rfl,Mj _,λ_ _ _=>rfl⟩
theorem Cx(w:NN){base:Nat}(a:base<=w.heap.size)(t:TypeId)(size:Nat):(w.alloc (.cells #[] t)).ownsRow base t size (.b w.heap.size 0 0) 0 []:=MQ w #[] 0 a (Ml _) E9
theorem CW(w:NN)(cost:Int)(a:NM)(cap:Nat)(l:List Xq)(hl:l.length<=1000){mN:Nat}(f7:mN<=1000)(hs:∀s∈l,s.TinyN mN)(hS:kL w a l):Calls prog 67 #[.agg #[.a cost,.slice a l.length cap]] w λe w'=>Lp w w' cost l e:=by
 go_enter func67,ntmps67
 go_wp2
 have k0:K_ w (((w.alloc (.cells #[.a cost,.slice a l.length cap] 31)).alloc (.cells #[.a 0,M3] 31)).alloc (.cells #[.a cost,M3] 31)):=((ah _ _).alloc _).alloc _;go_loopg [4] l.length (λg b6 wr=>∃(k:Nat)(b2:NP)(C:List NP),k+g=l.length/\b6=.a k/\CSt w wr a l.length cap cost b2 (l.take k) C)
 case atStart=>
  have X:=X_ ((w.alloc (.cells #[.a cost,.slice a l.length cap] 31)).alloc (.cells #[.a 0,M3] 31)) #[.a cost,M3] 31;simp only[MZ] at X;refine⟨0,M3,[],E5,rfl,⟨k0,?_,?_,?_,?_,X 0 _ rfl,X 1 _ rfl,Nj _ _ _ _,eH.nil _ _⟩⟩
  .exact ay.kept (ay.made w #[.a cost,.slice a l.length cap] 31) ((ah _ _).alloc _)
  .rw[K_.cell (w:=w.alloc (.cells #[.a cost,.slice a l.length cap] 31)) ((ah _ _).alloc _) E9];exact X_ w _ _ 1 _ rfl
  .exact ay.kept (by have:=ay.made (w.alloc (.cells #[.a cost,.slice a l.length cap] 31)) #[.a 0,M3] 31;simpa using this) (ah _ _)
  .have:=ay.made ((w.alloc (.cells #[.a cost,.slice a l.length cap] 31)).alloc (.cells #[.a 0,M3] 31)) #[.a cost,M3] 31;simpa using this
 case round=>
  clear k0;obtain⟨k,b2,C,Y,rfl,Q⟩:=hrel;have b:=Kz Q;have p1:=Q.arg;have zp:=Q.KC.lt;clear Q;by_cases R:k<l.length
  .obtain⟨f8,o,S,T,D,E,rfl,hb,i,Z,a0,y,z⟩:=(hS.kept b.o.kept) k R;have F:=hs (l.getD k Xq.zero) (by simp[List.getD,R]);let⟨s,a1⟩:=aj (l.getD k Xq.zero);rw[<-a1] at i Z a0 F y z;have b7:=Kz a1;clear a1;have c0:=i 0 _ rfl;have c1:=i 1 _ rfl;have c2:=i 2 _ rfl;have c3:=i 3 _ rfl;have c4:=i 4 _ rfl;have c5:=i 5 _ rfl;have c6:=i 6 _ rfl;have c7:=i 7 _ rfl;rw[Ng] at c0;clear i;have⟨HA,b8⟩:=aH Z a0;have v:=Kz (dG.copied wr s S T D E);have x:Hid (K_ wr (wr.alloc (.cells #[.slice S s.asks.length T,.a s.on,.slice D s.cases.length E,.a s.els,.a s.fall,.bool s.fin,.bool s.bad,.string s.give] 128))):=ah _ _;have b9:=F.asks;have c8:=F.cases;have f9:=Kz F;clear Z a0 F;have g0:(k:Int)<l.length:=E5;go_upto_region 6 with fail
   let⟨G,b3⟩:=aj (wr.alloc (.cells #[.slice S s.asks.length T,.a s.on,.slice D s.cases.length E,.a s.els,.a s.fall,.bool s.fin,.bool s.bad,.string s.give] 128));rw[<-b3] at v x⊢;clear b3 c0 c1 c2 c3 c4 c5 c6 c7 p1;have y0:=v.o.c0;have H:=v.o.row.lt;have c9:=x.o.size;let⟨_,f0⟩:=v.o.cell (o:=0) E5;let⟨ia,d0,d1,d2,d3⟩:=aT Tryz.gJ;let⟨ic,d4,d5,d6,d7⟩:=aT Tryz.qH;have c:=Kz (Cx G (base:=wr.heap.size) x.o.size 9 1);have d:Hid (K_ G (G.alloc (.cells #[] 9))):=ah _ _;go_cut [5] from 9 to 36 (λs5 wx=>∃U,s5=.c wr.heap.size/\CS1 wr wx s U (.slice D s.cases.length E))
   case first=>
    rcases S with _|ad
    .obtain⟨A,I⟩:=y rfl;have a2:Hid (s.asks=[]):=NE A;rw[A,I] at y0;clear y z b9 A I;go_wp2
     go_meet
     rw[<-World.setCell_alloc_past _ _ _ _ H];exact⟨_,rfl,CS1.mk' x.o v.o d.o c.o (wK _ _) (by rw[a2.o];exact c.o)⟩
    .have J:=Kz (Ce ((HA.o.kept x.o).kept d.o));have a3:=(x.o.trans d.o).size;clear y z;go_wp2_with (at_builtin;refine wpList_append_own _ rfl (.tmp 21) (.tmp 23) 26 rfl wr.heap.size 9 ia _ 1 16 underlying26 d0 d1 d2 d3 rfl E8 (.b G.heap.size 0 0) 0 [] rfl c.o ad s.asks.length T (s.asks.map Value.string) rfl E9 J.o (w_ _) F5 E5 a3 ?_;intro U w2 n B _;rw[MR,List.nil_append] at n;obtain⟨d8,d9,rfl⟩:=aF n;have f:=CS1.box v.o d.o c.o B;have K:=f.c0;have z2:=f.row.lt;let⟨_,V⟩:=f.cell (o:=0) E5;have a4:=Kz n;have a5:=Kz B;clear n B f)
     go_meet
     exact⟨_,rfl,CS1.mk' x.o v.o d.o c.o a5.o a4.o⟩
   case rest=>
    clear c d y0 H f0 c9;obtain⟨U,rfl,h1⟩:=hcut;obtain⟨L,rfl⟩:=aj wc;have j:=Kz h1;clear h1 v x;have K:=j.o.2.1.c2;have H:=j.o.2.1.row.lt;let⟨_,V⟩:=j.o.2.1.cell (o:=2) E5;have c:=Kz (Cx L (base:=wr.heap.size) j.o.1.size 131 2);have d:Hid (K_ L (L.alloc (.cells #[] 131))):=ah _ _;go_upto_region 7 with fail
    go_cut [5] from 9 to 36 (λs5 wx=>∃v2,s5=.c wr.heap.size/\CS2 wr wx s U v2)
    case first=>
     rcases D with _|ad
     .obtain⟨A,I⟩:=z rfl;have a2:Hid (s.cases=[]):=NE A;rw[A,I] at K;clear y z c8 A I;go_wp2
      go_meet
      rw[<-World.setCell_alloc_past _ _ _ _ H];exact⟨_,rfl,CS2.mk' j.o d.o c.o (wK _ _) (by rw[a2.o];exact c.o)⟩
     .have J:=Kz (AR ((b8.o.kept j.o.1).kept d.o));have a3:=(j.o.1.trans d.o).size;clear y z;go_wp2_with (at_builtin;refine wpList_append_own _ rfl (.tmp 26) (.tmp 28) 126 rfl wr.heap.size 131 ic _ 2 24 underlying126 d4 d5 d6 d7 rfl E8 (.b L.heap.size 0 0) 0 [] rfl c.o ad s.cases.length E (bi s.cases) rfl (iP _) J.o (wZ _) F5 E5 a3 ?_;intro v2 w2 n B _;rw[MR,List.nil_append] at n;obtain⟨d8,d9,rfl⟩:=aF n;have f:=CS2.box j.o d.o c.o B;have K:=f.c2;have z2:=f.row.lt;let⟨_,V⟩:=f.cell (o:=2) E5;have a4:=Kz n;have a5:=Kz B;clear n B f)
      go_meet
      exact⟨_,rfl,CS2.mk' j.o d.o c.o a5.o a4.o⟩
    case rest=>
     clear c d K H V j;obtain⟨v2,rfl,h2⟩:=hcut;let⟨⟨k4,h,a6⟩,a7⟩:=h2;obtain⟨p,q,rfl⟩:=aF a6;obtain⟨r,t,rfl⟩:=aF a7;have e0:Hid (iY wc wr.heap.size (s.cells p q r t) s):=⟨p,q,r,t,rfl,a6,a7⟩;have⟨g1,a8⟩:=aH h k4;clear a6 a7;have c0:=h.c0;have c1:=h.c1;have c2:=h.c2;have c3:=h.c3;have c4:=h.c4;have c5:=h.c5;have c6:=h.c6;have c7:=h.c7;have cz:=h.row.lt;clear h k4;have M:=b.o.ax a8.o;obtain⟨e1,e2,rfl⟩:=aF b.o.own;have o1:=M.o1;have oz:=M.out.lt;have N:K_ wc (wc.alloc (.cells #[.slice p s.asks.length q,.a s.on,.slice r s.cases.length t,.a s.els,.a s.fall,.bool s.fin,.bool s.bad,.string s.give] 128)):=ah _ _;have e3:=Kz N;have b4:=Kz (M.ax N).own;have e4:=Kz (M.ax N).kept.size;have b5:∀W u,(s.cells p q r t)[W]? =some u->(wc.alloc (.cells #[.slice p s.asks.length q,.a s.on,.slice r s.cases.length t,.a s.els,.a s.fall,.bool s.fin,.bool s.bad,.string s.give] 128)).cell? ((⟨wc.heap.size,0,none⟩:Addr).add W)=some u:=λW u hu=>by rw[Nf];exact X_ wc #[.slice p s.asks.length q,.a s.on,.slice r s.cases.length t,.a s.els,.a s.fall,.bool s.fin,.bool s.bad,.string s.give] 128 W u hu
     have J:=Kz b5;let⟨is,e5,e6,e7,e8⟩:=aT Tryz.kH;have a9:(l.take k).length=k:=H6;rw[a9] at o1 b4 b;have g2:k<=1000:=E5;have e9:=Kz a9;have f1:=Kz (a8.o.trans N);clear N b5 M y z a9;go_wp2_with (at_builtin;refine wpList_append_own _ rfl (.tmp 32) (.tmp 34) 29 rfl w.heap.size 128 is _ 8 96 underlying29 e5 e6 e7 e8 rfl E8 (.slice e1 k e2) k C rfl b4.o ⟨wc.heap.size,0,none⟩ 1 1 (s.cells p q r t) rfl rfl J.o (jm s p q r t) F5 E5 e4.o ?_;intro v' w2 b0 b1 _;have f:=b.o.fQ f1.o b1;have z2:=f.2.lt;let⟨⟨_,K⟩,V⟩:=f.2.row.at (i:=1) E5;have f2:=Kz b0;obtain⟨O,P,rfl⟩:=aF b0;have f3:=Kz b1;clear b0 b1 f)
     go_roundg (gk-1)
     case measure=>omega
     case rel=>
      have et:l.take (k+1)=l.take k++[s]:=by
       rw[Ms R,b7.o];simp[List.getD,R]
      refine⟨k+1,.slice O (k+1) P,C++s.cells p q r t,E5,F3,?_⟩;rw[et];exact b.o.push a8.o e3.o e0.o (by rw[e9.o];exact f2.o) f3.o
  .have f4:k=l.length:=E5;subst f4;rw[MS] at b;have o0:=b.o.o0;obtain⟨O,P,rfl⟩:=aF b.o.own;have o1:=b.o.o1;have oz:=b.o.out.lt;let⟨⟨_,x0⟩,g3⟩:=b.o.res.row.at (i:=0) E5;let⟨⟨_,x1⟩,g4⟩:=b.o.res.row.at (i:=1) E5;have rz:=b.o.res.lt;go_wp2
   have hR:=Mo wr (w.heap.size+1) 0 [.a cost,.slice O l.length P] (b.o.res.row.there (o:=0) (m:=2) (Mj _));have f5:=b.o.res.same (o:=0) (.a cost);have f6:=(b.o.res.set (o:=0) (.a cost)).same (o:=1) (.slice O l.length P);have Y:=f5.trans f6;exact Zx [.a cost,.slice O l.length P] _ results67 rfl hR underlying31 rfl Tryz.iN rfl ⟨_,C,rfl,aV b.o.own Y E8,b.o.pack.same Y E8 E8,(b.o.kept.setCell E9 _).setCell E9 _⟩
theorem Tryz.zY :(prog.info? 128).map (·.size)=some 8:=F4
def StW(w:NN)(v:NP)(L:List Xq):Prop:=∃a cap,v=.slice a L.length cap/\L.length<=cap/\∀i,i<L.length->∃b o cur fr cs,a=some ⟨b,o,none⟩/\w.heap[b]? =some (Obj.cells cur 128 fr)/\w.rangeAt b (o+i*8) cs/\lU w 9 131 cs (L.getD i Xq.zero)/\kQ cs
theorem StW.same(h:StW w v L)(k:aD u w w')(i:128≠u)(l:9≠u)(h2:131≠u):StW w' v L:=by
 let⟨a,m,n,p,g⟩:=h;refine⟨a,m,n,p,λq r=>?_⟩;let⟨b,o,c,d,s,t,e,x,y,z⟩:=g q r;have f:=k b c _ d i e;exact⟨b,o,c,d,s,t,f,λj A B=>by rw[MC (w:=w) (f.trans e.symm)];exact x j A B,y.same k l h2,z⟩
theorem qG{base g:Nat}(h:w.ownsRow base 128 8 (.b g n cap) n xs)(i:Nat):w.rangeAt g (0+i*8) (lI xs i):=by
 intro j u a;unfold lI at a;have d:j<8:=by have:=(Mr.1 a).1;rw[ML] at this;omega
 rw[List.getElem?_take,Nz d,List.getElem?_drop] at a;have:=h.cells (g:=g) rfl _ _ a;rw[Nf] at this;rw[Nat.add_assoc];exact this
theorem JM{i:Nat}{u:NP}(h:u∈lI xs i):u∈xs:=List.mem_of_mem_drop (List.mem_of_mem_take h)
theorem StW.gK{base:Nat}(h:w.ownsRow base 128 8 v L.length xs)(b:fE w 9 131 xs L)(c:kQ xs):StW w v L:=by
 rcases h.2 with⟨rfl,d⟩|⟨g,e,f,rfl,p,j,k,_,_,_⟩
 .exact⟨none,0,by rw[d],E5,λi a=>E5⟩
 .exact⟨_,e,rfl,k,λi a=>⟨g,0,f,_,_,rfl,j,qG h i,b.2 i a,λn l m=>c n l (JM m)⟩⟩
theorem eH.oJ{base:Nat}(h:eH w base xs l):kQ xs:=by
 intro n c a;let⟨j,b,d⟩:=MB a;have f:=h.len;have e:j / 8<l.length:=E5;refine (h.each (j / 8) e).oJ n c ?_;rw[<-d];unfold lI;refine ME (i:=j % 8) ?_;rw[List.getElem?_take,Nz E5,List.getElem?_drop,show j / 8*8+j % 8=j by omega,Mq b]
def KG(M:Nat)(w w':NN)(rb:Nat)(a:NM)(cap:Nat)(bs:List UInt8)(p t:Nat)(e:Ending):Prop:=∃(cost:Int)(v:NP)(L:List Xq)(p':Nat),e=.returned (.agg #[.a cost,v])/\p<=p'/\p'<=p+t/\L.length<=21/\(-1000<=cost/\cost<=1000)/\(∀s∈L,s.TinyN M)/\StW w' v L/\Rd w' rb a cap bs p'/\Xj rb (rb+1) w w'
theorem lw{base size:Nat}{e:TypeId}(h:w.ownsRow base e size v n xs)(a:∀b,v.ownBlock=some b->w'.heap[b]? =w.heap[b]?):w'.ownsRow base e size v n xs:=by
 refine⟨h.1,?_⟩;rcases h.2 with c|⟨g,d,f,rfl,i,j,rest⟩
 .exact .inl c
 .exact .inr ⟨g,d,f,rfl,i,(a g rfl).trans j,rest⟩
def Oth(w:NN)(base:Nat)(va vc:NP)(cs:List NP)(t:Xq):Prop:=iY w base cs t/\(∀b,xC cs=some b->va.ownBlock≠some b)/\∀b,si cs=some b->vc.ownBlock≠some b
variable {va vc:NP}
theorem Oth.same{base:Nat}{t:Xq}(h:Oth w base va vc cs t)(k:aD u w w')(b:9≠u)(h2:131≠u):Oth w' base va vc cs t:=⟨h.1.same k b h2,h.2⟩
theorem Oth.JB{base:Nat}{t:Xq}(h:Oth w1 base va vc cs t)(i:w1.ownsRow base 9 1 va n xs)(c:w1.grownBy w2 va.ownBlock)(j:v'.ownBlock=va.ownBlock\/v'.ownBlock=some w1.heap.size):Oth w2 base v' vc cs t:=by
 have d:=h.1.Df;obtain⟨⟨k,l,m,p,rfl,q,r⟩,f,s⟩:=h;refine⟨⟨k,l,m,p,rfl,lw q λb a=>c.block b (d.1 b a).2 λe=>f b a e.symm,aV r (aD.aI i c) E8⟩,λb a=>?_,s⟩;rcases j with e|e
 .rw[e];exact f b a
 .rw[e];intro v;have:=(d.1 b a).2;simp only[Na] at v;omega
theorem Oth.GQ{base:Nat}{t:Xq}(h:Oth w1 base va vc cs t)(i:w1.ownsRow base 131 2 vc n xs)(c:w1.grownBy w2 vc.ownBlock)(j:v'.ownBlock=vc.ownBlock\/v'.ownBlock=some w1.heap.size):Oth w2 base va v' cs t:=by
 have d:=h.1.Df;obtain⟨⟨k,l,m,p,rfl,q,r⟩,s,f⟩:=h;refine⟨⟨k,l,m,p,rfl,aV q (aD.aI i c) E8,lw r λb a=>c.block b (d.2 b a).2 λe=>f b a e.symm⟩,s,λb a=>?_⟩;rcases j with e|e
 .rw[e];exact f b a
 .rw[e];intro v;have:=(d.2 b a).2;simp only[Na] at v;omega
structure eF (M:Nat)(w wr:NN)(rb ob sb:Nat)(a:NM)(cap:Nat)(bs:List UInt8)(p:Nat)(cost:Int)(v:NP)(L:List Xq)(xs:List NP)(k:Nat)(va vc:NP)(s:Xq):Prop where
 st:gD M w wr rb sb a cap bs p va vc s
 obl:w.heap.size<=ob
 row:ay wr ob 31 2
 c0:wr.cell? ⟨ob,0,none⟩=some (.a cost)
 c1:wr.cell? ⟨ob,1,none⟩=some v
 own:wr.ownsRow w.heap.size 128 8 v L.length xs
 sbn:v.ownBlock≠some sb
 len:xs.length=L.length*8
 kl:k<L.length
 oth:∀i,i<L.length->i≠k->Oth wr w.heap.size va vc (lI xs i) (L.getD i Xq.zero)
 tiny:∀s∈L,s.TinyN M
variable {t:TypeId}
theorem ay.ji{b:Nat}(h:ay w b t n)(k:aD u w w')(e:t≠u):ay w' b t n/\∀o,w'.cell? ⟨b,o,none⟩=w.cell? ⟨b,o,none⟩:=by
 let⟨a,c,f⟩:=h;have d:=k _ a _ _ e c;exact⟨⟨a,d,f⟩,λo=>MC (w:=w) (d.trans c.symm)⟩
variable {M k ob sb:Nat}
theorem eF.drawn{p':Nat}{cost:Int}(h:eF M w wr rb ob sb a cap bs p cost v L xs k va vc s)(e:Rd w' rb a cap bs p')(d:Xj rb (rb+1) wr w'):eF M w w' rb ob sb a cap bs p' cost v L xs k va vc s:=by
 have b:=d.sameKind h.st.rd;have c:=h.row.ji b E8;exact⟨h.st.drawn e d,h.obl,c.1,(c.2 0).trans h.c0,(c.2 1).trans h.c1,aV h.own b E8,h.sbn,h.len,h.kl,λi f j=>(h.oth i f j).same b E8 E8,h.tiny⟩
theorem eF.kept{cost:Int}(h:eF M w wr rb ob sb a cap bs p cost v L xs k va vc s)(c:K_ wr w'):eF M w w' rb ob sb a cap bs p cost v L xs k va vc s:=h.drawn (h.st.rd.kept c) (.ax c)
theorem eF.field{cost:Int}{c:Xq}(h:eF M w wr rb ob sb a cap bs p cost v L xs k va vc s){o:Nat}{x:NP}(f:dG (wr.setCell ⟨sb,o,none⟩ x) sb va vc c)(i:c.asks=s.asks)(j:c.cases=s.cases)(l:c.TinyN M):eF M w (wr.setCell ⟨sb,o,none⟩ x) rb ob sb a cap bs p cost v L xs k va vc c:=by
 have e:=h.st.box.row.same (o:=o) x;have d:=h.row.ji e E8;exact⟨h.st.field f i j l,h.obl,d.1,(d.2 0).trans h.c0,(d.2 1).trans h.c1,lw h.own (λb m=>Below.heap_setCell _ _ _ _ λn=>h.sbn (by rw[m,n])),h.sbn,h.len,h.kl,λq r t=>(h.oth q r t).same e E8 E8,h.tiny⟩
theorem eF.qj{cost:Int}{x:NL}(h:eF M w wr rb ob sb a cap bs p cost v L xs k va vc s)(j:K_ wr w1)(m:w2.ownsRow w.heap.size 9 1 v' (s.asks.length+1) (s.asks.map Value.string++[.string x]))(d:w1.grownBy w2 va.ownBlock)(n:v'.ownBlock=va.ownBlock\/v'.ownBlock=some w1.heap.size)(q:s.asks.length+1<=M)(r:x.size<=300):eF M w (w2.setCell ⟨sb,0,none⟩ v') rb ob sb a cap bs p cost v L xs k v' vc {s with asks:=s.asks++[x]}:=by
 have c:=h.kept j;have e:=aD.aI c.st.asks d;have t:=c.st.box.same e E8;have l:=t.row.same (o:=0) v';have f:=c.row.ji e E8;have i:=f.1.ji l E8;exact⟨h.st.qj j m d q r,h.obl,i.1,(i.2 0).trans ((f.2 0).trans c.c0),(i.2 1).trans ((f.2 1).trans c.c1),lw (aV c.own e E8) (λb y=>Below.heap_setCell _ _ _ _ λz=>h.sbn (by rw[y,z])),h.sbn,h.len,h.kl,
  λA B C=>((c.oth A B C).JB c.st.asks d n).same l E8 E8,h.tiny⟩
theorem eF.tK{cost:Int}{x:bU}(h:eF M w wr rb ob sb a cap bs p cost v L xs k va vc s)(j:K_ wr w1)(m:w2.ownsRow w.heap.size 131 2 v' (s.cases.length+1) (bi s.cases++x.cells))(d:w1.grownBy w2 vc.ownBlock)(n:v'.ownBlock=vc.ownBlock\/v'.ownBlock=some w1.heap.size)(q:s.cases.length+1<=M)(r:x.Tiny):eF M w (w2.setCell ⟨sb,2,none⟩ v') rb ob sb a cap bs p cost v L xs k va v' {s with cases:=s.cases++[x]}:=by
 have c:=h.kept j;have e:=aD.aI c.st.cases d;have t:=c.st.box.same e E8;have l:=t.row.same (o:=2) v';have f:=c.row.ji e E8;have i:=f.1.ji l E8;exact⟨h.st.tK j m d q r,h.obl,i.1,(i.2 0).trans ((f.2 0).trans c.c0),(i.2 1).trans ((f.2 1).trans c.c1),lw (aV c.own e E8) (λb y=>Below.heap_setCell _ _ _ _ λz=>h.sbn (by rw[y,z])),h.sbn,h.len,h.kl,
  λA B C=>((c.oth A B C).GQ c.st.cases d n).same l E8 E8,h.tiny⟩
theorem eF.cost{cost x:Int}(h:eF M w wr rb ob sb a cap bs p cost v L xs k va vc s):eF M w (wr.setCell ⟨ob,0,none⟩ (.a x)) rb ob sb a cap bs p x v L xs k va vc s:=by
 have b:=h.row.same (o:=0) (.a x);have c:Below w.heap.size wr (wr.setCell ⟨ob,0,none⟩ (.a x)):=(Below.refl _ _).setCell h.obl _;let⟨l,d⟩:=h.st.rd0;have e:gD M w (wr.setCell ⟨ob,0,none⟩ (.a x)) rb sb a cap bs p va vc s:=⟨h.st.rd.below d c h.st.kb.size,h.st.rd0,h.st.sbl,h.st.kb.below c,h.st.box.same b E8,aV h.st.asks b E8,aV h.st.cases b E8,h.st.tiny⟩;exact⟨e,h.obl,h.row.set _,aR h.row.row E5 _,(Xk E5 _).trans h.c1,aV h.own b E8,h.sbn,h.len,h.kl,λi f j=>(h.oth i f j).same b E8 E8,h.tiny⟩
theorem ay.setCells{g:Nat}:∀(vs:List NP)(o:Nat){w:NN},ay w g t n->ay (w.setCells g o vs) g t n/\aD t w (w.setCells g o vs)
 |[],_,_,h=>⟨h,aD.refl _ _⟩
 |v :: r,o,_,h=>by
  rw[World.setCells];have:=ay.setCells r (o+1) (h.set (o:=o) v);exact⟨this.1,(h.same (o:=o) v).trans this.2⟩
theorem Below.setCells'{B g:Nat}(c:B<=g):∀(vs:List NP)(o:Nat){a w:NN},Below B a w->Below B a (w.setCells g o vs)
 |[],_,_,_,h=>h
 |v :: r,o,_,_,h=>by
  rw[World.setCells];exact Below.setCells' c r (o+1) (h.setCell (p:=⟨g,o,none⟩) c v)
structure uL (M:Nat)(w wr:NN)(rb ob:Nat)(a:NM)(cap:Nat)(bs:List UInt8)(p:Nat)(cost:Int)(v:NP)(L:List Xq):Prop where
 rd:Rd wr rb a cap bs p
 kb:Xj rb (rb+1) w wr
 row:ay wr ob 31 2
 c0:wr.cell? ⟨ob,0,none⟩=some (.a cost)
 c1:wr.cell? ⟨ob,1,none⟩=some v
 stw:StW wr v L
 tiny:∀s∈L,s.TinyN M
theorem eF.store{cost:Int}{g j:Nat}{b c:NM}{d e:Nat}(h:eF M w wr rb ob sb a cap bs p cost (.b g L.length j) L xs k (.slice b s.asks.length d) (.slice c s.cases.length e) s):uL M w (wr.setCells g (k*8) (s.cells b d c e)) rb ob a cap bs p cost (.b g L.length j) (L.set k s):=by
 have K:=h.kl;have N:=h.len;rcases h.own.2 with⟨f,_⟩|⟨O,P,z,f,A,B,C,_,D,_⟩
 .simp at f
 simp only[Nb,Na,NI,and_true,true_and] at f;obtain⟨rfl,rfl⟩:=f;have t:ay wr g 128 (j*8):=⟨z,B,D⟩;have l:=ay.setCells (s.cells b d c e) (k*8) t;have m:=h.row.ji l.2 E8;have v:Below w.heap.size wr (wr.setCells g (k*8) (s.cells b d c e)):=Below.setCells' A _ _ (Below.refl _ _);let⟨Q,E⟩:=h.st.rd0;let⟨x,y,_⟩:=l.1;refine⟨h.st.rd.below E v h.st.kb.size,h.st.kb.below v,m.1,(m.2 0).trans h.c0,(m.2 1).trans h.c1,⟨some ⟨g,0,none⟩,j,by rw[Nu],by rw[Nu];exact C,λi n=>?_⟩,λF G=>?_⟩
 .rw[Nu] at n;by_cases f:i=k
  .subst f;refine⟨g,0,x,_,s.cells b d c e,rfl,y,?_,?_,?_⟩
   .rw[MR];exact Mo wr g (i*8) (s.cells b d c e) (t.row.there (by show i*8+8<=j*8;omega))
   .have q:(L.set i s).getD i Xq.zero=s:=by simp[List.getD,n]
    rw[q];exact (iY.step ⟨b,d,c,e,rfl,h.st.asks,h.st.cases⟩).same l.2 E8 E8
   .exact iY.oJ ⟨b,d,c,e,rfl,h.st.asks,h.st.cases⟩
  .have r:=(h.oth i n f).1;have H:(lI xs i).length=8:=by let⟨_,_,_,_,I,_⟩:=r;rw[I];rfl
   refine⟨g,0,x,_,lI xs i,rfl,y,?_,?_,r.oJ⟩
   .refine MG (qG h.own i) g (k*8) _ (.inr ?_);show 0+i*8+(lI xs i).length<=k*8\/k*8+8<=0+i*8;rw[H];omega
   .have q:(L.set k s).getD i Xq.zero=L.getD i Xq.zero:=by simp[List.getD,Ne.symm f]
    rw[q];exact r.step.same l.2 E8 E8
 .rcases List.mem_or_eq_of_mem_set G with J|rfl
  .exact h.tiny F J
  .exact h.st.tiny
theorem uL.ends{b:Nat}{p' t:Nat}{cost:Int}{e:Ending}(h:uL M A0 wr rb ob a cap bs p' cost v L)(c:ay wr b 31 2)(d:w.heap.size<=b)(k0:K_ w A0){l:Nat}(m:Rd w rb a cap bs l)(n:e=.returned (.agg #[.a cost,v]))(q:p<=p')(h2:p'<=p+t)(r:L.length<=21)(s: -1000<=cost/\cost<=1000):KG M w ((wr.setCell ⟨b,0,none⟩ (.a cost)).setCell ⟨b,1,none⟩ v) rb a cap bs p t e:=by
 have x:=c.same (o:=0) (.a cost);have y:=(c.set (o:=0) (.a cost)).same (o:=1) v;have z:=x.trans y;have f:Below w.heap.size wr ((wr.setCell ⟨b,0,none⟩ (.a cost)).setCell ⟨b,1,none⟩ v):=((Below.refl _ _).setCell (p:=⟨b,0,none⟩) d _).setCell (p:=⟨b,1,none⟩) d _;have i:Xj rb (rb+1) w wr:=⟨h.kb.os.trans k0.os,h.kb.tape.trans k0.tape,h.kb.output.trans k0.output,Mm k0.size h.kb.size,λj k A=>(h.kb.block j (Mk k k0.size) A).trans (k0.block j k)⟩;exact⟨cost,v,L,p',n,q,h2,r,s,h.tiny,h.stw.same z E8 E8 E8,h.rd.below m f i.size,i.below f⟩
theorem eF.made{b:NN}{x:Nat}{cost:Int}{d e:NM}{f h:Nat}(D:Rd b rb a cap bs p)(E:Rd A0 rb a cap bs x)(y:Xj rb (rb+1) A0 b)(F:A0.heap.size<=ob)(m:ay b ob 31 2)(G:b.cell? ⟨ob,0,none⟩=some (.a cost))(c1:b.cell? ⟨ob,1,none⟩=some v)(own:b.ownsRow A0.heap.size 128 8 v L.length xs)(i:eH b A0.heap.size xs L)(j:k<L.length)(z:∀s∈L,s.TinyN M)(A:s=L.getD k Xq.zero)(n:lI xs k=s.cells d f e h):eF M A0 (b.alloc (.cells #[.slice d s.asks.length f,.a s.on,.slice e s.cases.length h,.a s.els,.a s.fall,.bool s.fin,.bool s.bad,.string s.give] 128)) rb ob b.heap.size a cap bs p cost v L xs k (.slice d s.asks.length f) (.slice e s.cases.length h) s:=by
 have c:K_ b (b.alloc (.cells #[.slice d s.asks.length f,.a s.on,.slice e s.cases.length h,.a s.els,.a s.fall,.bool s.fin,.bool s.bad,.string s.give] 128)):=ah _ _;have H:s.TinyN M:=z s (by rw[A];simp[List.getD,j]);have B:=i.each k j;rw[n,<-A] at B;let⟨K,N,O,P,l,I,J⟩:=B;simp only[Xq.cells,List.cons.injEq,Nb,true_and,and_true] at l;obtain⟨⟨rfl,rfl⟩,rfl,rfl⟩:=l;refine⟨⟨D.kept c,⟨x,E⟩,y.size,y.fV c,dG.copied b s d f e h,au I c,au J c,H⟩,F,m.kept c,(c.cell m.lt).trans G,(c.cell m.lt).trans c1,au own c,λl=>?_,i.len,j,λq r C=>⟨(i.each q r).same (u:=125) (aD.ax c) E8 E8,λt w=>?_,λt w=>?_⟩,z⟩
 .have:=(own.lt _ l).2;omega
 .have:=(i.apart q k r j C).1 t w;rw[n] at this;exact this
 .have:=(i.apart q k r j C).2 t w;rw[n] at this;exact this
theorem uL.made{cost:Int}(c:Rd wr rb a cap bs p)(d:Xj rb (rb+1) A0 wr)(e:ay wr ob 31 2)(f:wr.cell? ⟨ob,0,none⟩=some (.a cost))(c1:wr.cell? ⟨ob,1,none⟩=some v)(own:wr.ownsRow A0.heap.size 128 8 v L.length xs)(b:eH wr A0.heap.size xs L)(h:∀s∈L,s.TinyN M):uL M A0 wr rb ob a cap bs p cost v L:=⟨c,d,e,f,c1,StW.gK own b.packed b.oJ,h⟩
theorem vH{a:NN}(cs:List Int)(k:Xj rb (rb+1) (w.alloc (.cells (cs.map (Value.int .i64)).toArray t)) a)(e:rb<w.heap.size)(q:Nat)(b:q<cs.length)(d:∀c∈cs, -1000<=c/\c<=1000):∃c,a.cell? ⟨w.heap.size,q,none⟩=some (.a c)/\ -1000<=c/\c<=1000:=by
 refine⟨cs[q],?_,d _ (Mw b)⟩;rw[k.cell E9 E5,World.cell?_alloc_mark];simp[b]
theorem in64_wrap64(x:Int):In64 (wrap64 x):=by
 unfold In64 wrap64;omega
theorem vG(w:NN)(s:NL)(m:Int)(n:Nat)(a:m= (n:Int))(b:n<=1000)(c:s.size<=100):Calls prog 82 #[.string s,.a m] w λe w'=>(∃t:NL,e=.returned (.string t)/\t.size<=n*s.size)/\w'=w:=by
 rw[a];exact Cu w s n b c
theorem xB(w:NN)(t:TypeId)(cs:List Int)(q:Nat)(a:q<cs.length)(b:∀c∈cs, -1000<=c/\c<=1000):∃c,(w.alloc (.cells (cs.map (Value.int .i64)).toArray t)).cell? ⟨w.heap.size,q,none⟩=some (.a c)/\ -1000<=c/\c<=1000:=by
 refine⟨cs[q],?_,b _ (Mw a)⟩;rw[World.cell?_alloc_mark];simp[a]
theorem wH{g H:Nat}(h:v.ownBlock=some g\/g=H):(Value.slice (some ⟨g,0,none⟩) n cap).ownBlock=v.ownBlock\/(Value.slice (some ⟨g,0,none⟩) n cap).ownBlock=some H:=by
 rcases h with h|rfl
 .exact .inl h.symm
 .exact .inr rfl
theorem Af{a:NN}(cs:List NL)(k:Xj rb (rb+1) (w.alloc (.cells (cs.map Value.string).toArray t)) a)(e:rb<w.heap.size)(q:Nat)(b:q<cs.length)(d:∀c∈cs,c.size<=300):∃c,a.cell? ⟨w.heap.size,q,none⟩=some (.string c)/\c.size<=300:=by
 refine⟨cs[q],?_,d _ (Mw b)⟩;rw[k.cell E9 E5,World.cell?_alloc_mark];simp[b]
theorem BU(w:NN)(t:TypeId)(cs:List NL)(q:Nat)(a:q<cs.length)(b:∀c∈cs,c.size<=300):∃c,(w.alloc (.cells (cs.map Value.string).toArray t)).cell? ⟨w.heap.size,q,none⟩=some (.string c)/\c.size<=300:=by
 refine⟨cs[q],?_,b _ (Mw a)⟩;rw[World.cell?_alloc_mark];simp[a]
structure OSt (W wr:NN)(rb:Nat)(a:NM)(cap:Nat)(bs:List UInt8)(p:Nat)(v:NP)(l:List NL):Prop where
 rd:Rd wr rb a cap bs p
 rd0:∃p0,Rd W rb a cap bs p0
 kb:Xj rb (rb+1) W wr
 own:wr.ownsRow W.heap.size 9 1 v l.length (l.map Value.string)
 sz:∀x∈l,x.size<=300
section
variable {W wr w':NN}{rb:Nat}{a:NM}{cap:Nat}{bs:List UInt8}{p p':Nat}{v:NP}{l:List NL}
theorem OSt.drawn(h:OSt W wr rb a cap bs p v l)(c:Rd w' rb a cap bs p')(k:Xj rb (rb+1) wr w'):OSt W w' rb a cap bs p' v l:=⟨c,h.rd0,h.kb.trans k,aV h.own (k.sameKind h.rd) E8,h.sz⟩
theorem OSt.kept(h:OSt W wr rb a cap bs p v l)(k:K_ wr w'):OSt W w' rb a cap bs p v l:=h.drawn (h.rd.kept k) (.ax k)
theorem OSt.push{x:NL}(h:OSt W wr rb a cap bs p v l)(e:K_ wr w1)(f:w2.ownsRow W.heap.size 9 1 v' (l.length+1) (l.map Value.string++[.string x]))(i:w1.grownBy w2 v.ownBlock)(j:x.size<=300):OSt W w2 rb a cap bs p v' (l++[x]):=by
 have b:=h.kept e;have d:Below W.heap.size w1 w2:=(Below.refl _ _).grown i b.kb.size λk m=>(b.own.lt k m).1;let⟨q,n⟩:=h.rd0;refine⟨b.rd.below n d b.kb.size,h.rd0,b.kb.below d,by simpa using f,λy c=>?_⟩;simp only[Mv,Mt] at c;rcases c with c|rfl
 .exact h.sz y c
 .exact j
theorem OSt.made{b:Nat}(d:Rd W rb a cap bs b)(h:Rd wr rb a cap bs p)(k:Xj rb (rb+1) W wr):OSt W (wr.alloc (.cells #[] 9)) rb a cap bs p (.b wr.heap.size 0 0) []:=by
 have c:K_ wr (wr.alloc (.cells #[] 9)):=ah _ _;exact⟨h.kept c,⟨b,d⟩,k.fV c,dN (MQ wr #[] 0 (Mj _) (Ml _) rfl) k.size,λx f=>by simp at f⟩
end
section
variable {W wr w':NN}{rb:Nat}{a:NM}{cap:Nat}{bs:List UInt8}{p p':Nat}{v:NP}{l:List NL}
theorem eX.take{a:NM}{l:List NL}(h:eX w t a l)(n:Nat):eX w t a (l.take n):=by
 rcases h with rfl|⟨b,c,d,e,f,j⟩
 .exact .inl E9
 .refine .inr ⟨b,c,d,e,f,λi k=>?_⟩;rw[ML] at k;rw[j i E5];simp[List.getD,(E5:i<n)]
end
theorem Ba{a b:NL}(h:(a.toList == b.toList)=true):a=b:=by
 have c:a.toList=b.toList:=by simpa using h
 rw[ByteArray.toList_eq,ByteArray.toList_eq] at c;cases a;cases b;simp at c;rw[c]
theorem uE(w:NN)(a:NM)(cap:Nat)(l:List NL)(x:NL)(t:l.length<=1048576)(p:Strs w a l):Calls prog 51 #[.slice a l.length cap,.string x] w λe w'=>Says e (x∈l)/\w'=w:=by
 go_enter func51,ntmps51
 go_wp2
 go_loopw [5] (λi wr=>∃k:Nat,k<=l.length/\i=.a (k:Int)/\Hid (x∉l.take k)/\wr=w) (λi _=>l.length-(intOf i).toNat)
 case atStart=>exact⟨0,Ml _,rfl,Kz E9,rfl⟩
 case round=>
  obtain⟨k,v,rfl,j,rfl⟩:=hrel;by_cases c:k<l.length
  .obtain⟨b,o,q,z,r⟩:=p k c;subst q;let⟨y,d⟩:=aj (l.getD k ByteArray.empty);rw[<-d] at r;have m:l[k]=y:=by rw[d];simp[List.getD,c]
   have n:=Kz m;have A:(k:Int)<(l.length:Int):=E5;clear d m;cases f:(y.toList == x.toList)
   .go_wp2
    go_roundw
    case rel=>
     refine⟨k+1,E5,F3,Kz λh=>?_,trivial⟩;rw[Ms c,n.o] at h;rcases Mv.1 h with h|h
     .exact j.o h
     .rw[Mt] at h;rw[h] at f;simp at f
    case measure=>simp[intOf];omega
   .go_wp2
    go_ret
    exact⟨Says.yes (by rw[<-Ba f,<-n.o];exact Mw c),rfl⟩
  .have B:¬((k:Int)<(l.length:Int)):=E5;have s:Hid (x∉l):=by have h:=j.o;rw[MU E5] at h;exact h
   clear c;go_wp2
   go_ret
   exact⟨Says.no s.o,rfl⟩
def ou(w:NN)(a:NM)(l:List NL):Prop:=l=[]\/∃b o cur fr,a=some ⟨b,o,none⟩/\w.heap[b]? =some (Obj.cells cur 9 fr)/\∀i,i<l.length->w.cell? ⟨b,o+i,none⟩=some (.string (l.getD i ByteArray.empty))
variable {a:NM}{u:TypeId}{w w':NN}
theorem ou.same{l:List NL}(h:ou w a l)(k:aD u w w')(i:9≠u):ou w' a l:=by
 rcases h with h|⟨b,o,c,d,j,e,m⟩
 .exact .inl h
 .have f:=k b c _ d i e;exact .inr ⟨b,o,c,d,j,f,λn p=>by rw[MC (w:=w) (f.trans e.symm)];exact m n p⟩
theorem ou.strs{l:List NL}(h:ou w a l):Strs w a l:=by
 rcases h with rfl|⟨c,o,j,k,d,e,f⟩
 .intro i b;simp at b
 .exact λi b=>⟨c,o,d,aM e,f i b⟩
theorem eX.g{l:List NL}(h:eX w 9 a l):ou w a l:=by
 rcases h with h|⟨b,c,d,e,f,i⟩
 .exact .inl h
 .exact .inr ⟨b,0,c,d,e,f,λj k=>by rw[MR];exact i j k⟩
variable {n:Nat}
theorem ou.tail{b o:Nat}{l:List NL}{c:Array NP}{d:Nat×Nat}(e:w.heap[b]? =some (Obj.cells c 9 d))(f:∀i,i<l.length->w.cell? ⟨b,o+i,none⟩=some (.string (l.getD i ByteArray.empty)))(j:l.drop n≠[]->a=some ⟨b,o+n,none⟩):ou w a (l.drop n):=by
 by_cases h:l.drop n=[]
 .exact .inl h
 .refine .inr ⟨b,o+n,c,d,j h,e,λi k=>?_⟩;rw[List.length_drop] at k;have:=f (n+i) E5;rw[Nat.add_assoc,this];simp[List.getD,List.getElem?_drop]
def GStep(w:NN)(cs:List NP)(s:Xq):Prop:=∃aa ca ac cc,cs=s.cells aa ca ac cc/\ou w aa s.asks/\pW w 131 ac s.cases/\s.asks.length<=ca
theorem GStep.same{cs:List NP}{s:Xq}(h:GStep w cs s)(k:aD u w w')(a:9≠u)(h2:131≠u):GStep w' cs s:=by
 let⟨b,c,d,e,f,i,j,l⟩:=h;exact⟨b,c,d,e,f,i.same k a,j.same k h2,l⟩
theorem lU.g{cs:List NP}{s:Xq}(h:lU w 9 131 cs s):GStep w cs s:=by
 let⟨a,b,c,d,e,f,i,j⟩:=h;exact⟨a,b,c,d,e,f.g,i,j⟩
def dE(w:NN)(v:NP)(L:List Xq):Prop:=∃a cap,v=.slice a L.length cap/\L.length<=cap/\∀i,i<L.length->∃b o cur fr cs,a=some ⟨b,o,none⟩/\w.heap[b]? =some (Obj.cells cur 128 fr)/\w.rangeAt b (o+i*8) cs/\GStep w cs (L.getD i Xq.zero)/\kQ cs
variable {v:NP}
theorem dE.same{L:List Xq}(h:dE w v L)(k:aD u w w')(i:128≠u)(l:9≠u)(h2:131≠u):dE w' v L:=by
 let⟨a,m,n,p,g⟩:=h;refine⟨a,m,n,p,λq r=>?_⟩;let⟨b,o,c,d,s,t,e,x,y,z⟩:=g q r;have f:=k b c _ d i e;exact⟨b,o,c,d,s,t,f,λj A B=>by rw[MC (w:=w) (f.trans e.symm)];exact x j A B,y.same k l h2,z⟩
theorem StW.g{L:List Xq}(h:StW w v L):dE w v L:=by
 let⟨a,c,e,d,g⟩:=h;refine⟨a,c,e,d,λi f=>?_⟩;let⟨b,o,j,k,l,m,n,p,q,r⟩:=g i f;exact⟨b,o,j,k,l,m,n,p,q.g,r⟩
theorem dE.EC{L:List Xq}(h:dE w v L):∃a cap,v=.slice a L.length cap/\L.length<=cap/\kL w a L:=by
 let⟨a,cap,e,d,g⟩:=h;refine⟨a,cap,e,d,λi f=>?_⟩;obtain⟨j,o,x,y,z,k,l,m,⟨n,p,q,r,rfl,s,t,A⟩,c⟩:=g i f;refine⟨j,o,n,p,q,r,k,aM l,m,s.strs,t.cases,λb=>?_,λb=>?_⟩
 .subst b;exact c _ _ (by simp[Xq.cells])
 .subst b;exact c _ _ (by simp[Xq.cells])
variable {cap:Nat}
theorem dE.steps{L:List Xq}(h:dE w (.slice a n cap) L):Steps w a L:=by
 let⟨t,v,e,x,g⟩:=h;simp only[Nb] at e;obtain⟨rfl,rfl,rfl⟩:=e;intro i c;obtain⟨b,o,y,z,A,d,f,j,⟨k,l,m,p,rfl,q,r,s⟩,B⟩:=g i c;exact⟨b,o,_,d,aM f,j,k,l,m,p,rfl,q.strs,r.cases,s⟩
theorem dE.slice{L:List Xq}(h:dE w v L):∃a cap,v=.slice a L.length cap:=let ⟨a,cap,e,_⟩:=h;⟨a,cap,e⟩
def dF(w:NN)(xs:List NP)(l:List Qz):Prop:=xs.length=l.length*3/\∀i,i<l.length->∃v,(xs.drop (i*3)).take 3=[.string (l.getD i Qz.zero).name,.a (l.getD i Qz.zero).cost,v]/\dE w v (l.getD i Qz.zero).steps
theorem dF.nil(w:NN):dF w [] []:=⟨rfl,λi a=>by simp at a⟩
variable {xs:List NP}
theorem dF.same{l:List Qz}(h:dF w xs l)(k:aD u w w')(a:128≠u)(b:9≠u)(h2:131≠u):dF w' xs l:=⟨h.1,λi c=>by let⟨v,d,g⟩:=h.2 i c;exact⟨v,d,g.same k a b h2⟩⟩
theorem dF.snoc{l:List Qz}{d:Qz}(h:dF w xs l)(f:dE w v d.steps):dF w (xs++[.string d.name,.a d.cost,v]) (l++[d]):=by
 refine⟨by simp[h.1];omega,λi c=>?_⟩;rw[M_] at c;simp only[Nc,List.length_nil] at c;by_cases e:i<l.length
 .have a:(l++[d]).getD i Qz.zero=l.getD i Qz.zero:=by simp[List.getD,Np e]
  have b:((xs++[.string d.name,.a d.cost,v]).drop (i*3)).take 3= (xs.drop (i*3)).take 3:=by
   rw[List.drop_append_of_le_length (by rw[h.1];omega),List.take_append_of_le_length (by rw[List.length_drop,h.1];omega)]
  rw[a,b];exact h.2 i e
 .obtain rfl:i=l.length:=E5;have a:(l++[d]).getD l.length Qz.zero=d:=I8;have b:((xs++[.string d.name,.a d.cost,v]).drop (l.length*3)).take 3=[.string d.name,.a d.cost,v]:=by
   rw[<-h.1,List.drop_left]
   rfl
  rw[a,b];exact⟨v,rfl,f⟩
def tZ(w:NN)(a:NM)(l:List Qz):Prop:=∀i,i<l.length->∃b o sa sc,a=some ⟨b,o,none⟩/\b<w.heap.size/\w.rangeAt b (o+i*3) ((l.getD i Qz.zero).cells sa sc)/\kL w sa (l.getD i Qz.zero).steps
theorem tZ.kept{l:List Qz}(h:tZ w a l)(k:K_ w w'):tZ w' a l:=by
 intro i c;let⟨d,o,e,f,j,b,m,n⟩:=h i c;exact⟨d,o,e,f,j,Mk b k.size,k.range b m,n.kept k⟩
def bS(w:NN)(v:NP)(l:List Qz):Prop:=∃a cap,v=.slice a l.length cap/\l.length<=cap/\((a=none->cap=0)/\∀ad,a=some ad->ad.spot=none)/\∀i,i<l.length->∃b o cur fr u,a=some ⟨b,o,none⟩/\w.heap[b]? =some (Obj.cells cur 33 fr)/\
  w.rangeAt b (o+i*3) [.string (l.getD i Qz.zero).name,.a (l.getD i Qz.zero).cost,u]/\dE w u (l.getD i Qz.zero).steps
theorem bS.same{l:List Qz}(h:bS w v l)(k:aD u w w')(i:33≠u)(j:128≠u)(m:9≠u)(h2:131≠u):bS w' v l:=by
 let⟨a,n,p,q,r,g⟩:=h;refine⟨a,n,p,q,r,λs t=>?_⟩;let⟨b,o,c,d,x,y,e,z,A⟩:=g s t;have f:=k b c _ d i e;exact⟨b,o,c,d,x,y,f,λB C D=>by rw[MC (w:=w) (f.trans e.symm)];exact z B C D,A.same k j m h2⟩
theorem bS.kept{l:List Qz}(h:bS w v l)(k:K_ w w'):bS w' v l:=h.same (u:=25) (.ax k) E8 E8 E8 E8
theorem bS.slice{l:List Qz}(h:bS w v l):∃a cap,v=.slice a l.length cap/\l.length<=cap/\((a=none->cap=0)/\∀ad,a=some ad->ad.spot=none):=let ⟨a,cap,e,h1,h2,_⟩:=h;⟨a,cap,e,h1,h2⟩
theorem bS.JE{l:List Qz}(h:bS w (.slice a n cap) l):tZ w a l:=by
 let⟨r,s,e,t,v,g⟩:=h;simp only[Nb] at e;obtain⟨rfl,rfl,rfl⟩:=e;intro i c;let⟨b,o,x,y,u,d,f,j,k⟩:=g i c;obtain⟨m,p,rfl,_,q⟩:=k.EC;exact⟨b,o,m,p,d,aM f,j,q⟩
theorem bS.nodes{l:List Qz}(h:bS w (.slice a n cap) l):bQ w a l:=by
 let⟨q,r,e,s,t,g⟩:=h;simp only[Nb] at e;obtain⟨rfl,rfl,rfl⟩:=e;intro i d;let⟨b,o,v,x,u,f,j,k,c⟩:=g i d;obtain⟨m,p,rfl⟩:=c.slice;exact⟨b,o,_,f,aM j,k,m,p,rfl,c.steps⟩
theorem bS.gK{base:Nat}{l:List Qz}(a:w.ownsRow base 33 3 v l.length xs)(f:dF w xs l):bS w v l:=by
 rcases a.2 with⟨rfl,h⟩|⟨g,k,m,rfl,s,n,p,_,_,_⟩
 .exact⟨none,0,by rw[h],E5,⟨λ_=>rfl,λ_ e=>by cases e⟩,λi b=>E5⟩
 .refine⟨_,k,rfl,p,⟨λe=>by simp at e,λ_ e=>by cases e;rfl⟩,λi b=>?_⟩;let⟨u,e,q⟩:=f.2 i b;refine⟨g,0,m,_,u,rfl,n,λj x c=>?_,q⟩;have r:j<3:=by have:=(Mr.1 c).1;simpa using this
  have d:((xs.drop (i*3)).take 3)[j]? =some x:=by rw[e];exact c
  rw[List.getElem?_take,Nz r,List.getElem?_drop] at d;have:=a.cells (g:=g) rfl _ _ d;rw[Nf] at this;rw[MR] at this⊢;exact this
theorem bS.nil(w:NN):bS w M3 []:=⟨none,0,rfl,Mj _,⟨λ_=>rfl,λ_ e=>by cases e⟩,λi b=>by simp at b⟩
structure Qz.TinyN (m:Nat)(d:Qz):Prop where
 name:d.name.size<=300
 cost: -1000<=d.cost/\d.cost<=1000
 steps:d.steps.length<=21
 each:∀s∈d.steps,s.TinyN m
theorem Qz.TinyN.fits{m:Nat}{d:Qz}(h:d.TinyN m)(a:m<=1000):d.Fits:=by
 have c:=h.name;have e:=h.steps;exact⟨F5,nV h.cost,F5,λs b=>(h.each s b).fits a⟩
theorem Qz.TinyN.mono{m:Nat}{d:Qz}(h:d.TinyN m)(b:m<=n):d.TinyN n:=⟨h.name,h.cost,h.steps,λs e=>(h.each s e).mono b⟩
def lQ(lo:Nat)(v:NP)(L:List Qz):Prop:=0<L.length->∀g n c,v=.slice (some g) n c->lo<=g.block
variable {L:List Qz}
theorem lQ.mono{lo a:Nat}(h:lQ lo v L)(c:a<=lo):lQ a v L:=λd g n f e=>Mm c (h d g n f e)
theorem lQ.gK{base:Nat}(h:w.ownsRow base 33 3 v n xs):lQ base v L:=λ_ g n c e=>(h.lt g.block (by rw[e];rfl)).1
def jd(M N:Nat)(w w':NN)(rb:Nat)(a:NM)(cap:Nat)(bs:List UInt8)(p t:Nat)(e:Ending):Prop:=∃(v:NP)(L:List Qz)(p':Nat),e=.returned (.agg #[v])/\p<=p'/\p'<=p+t/\L.length<=N/\(∀d∈L,d.TinyN M)/\bS w' v L/\Rd w' rb a cap bs p'/\Xj rb (rb+1) w w'/\lQ w.heap.size v L
theorem Tryz.nD :(prog.info? 33).map (λi=>(i.zero,i.size,i.bytes))=some (some (.agg #[.string ⟨#[]⟩,.a 0,M3]),3,48):=F4
theorem Tryz.gZ :(prog.info? 25).map (·.size)=some 1:=F4
structure fZ (m:Nat)(w wr:NN)(rb wb:Nat)(a:NM)(cap:Nat)(bs:List UInt8)(p:Nat)(v:NP)(L:List Qz)(xs:List NP):Prop where
 rd:Rd wr rb a cap bs p
 rd0:∃p0,Rd w rb a cap bs p0
 wbl:w.heap.size<=wb
 kb:Xj rb (rb+1) w wr
 row:ay wr wb 25 1
 c0:wr.cell? ⟨wb,0,none⟩=some v
 own:wr.ownsRow w.heap.size 33 3 v L.length xs
 pack:dF wr xs L
 tiny:∀d∈L,d.TinyN m
variable {bs:List UInt8}{mN p rb wb:Nat}{wr:NN}
theorem fZ.rbl(h:fZ mN w wr rb wb a cap bs p v L xs):rb<w.heap.size:=let ⟨_,h0⟩:=h.rd0;h0.row.lt
theorem fZ.drawn{p':Nat}(h:fZ mN w wr rb wb a cap bs p v L xs)(d:Rd w' rb a cap bs p')(k:Xj rb (rb+1) wr w'):fZ mN w w' rb wb a cap bs p' v L xs:=by
 have c:=k.sameKind h.rd;have:=h.rbl;have:=h.wbl;exact⟨d,h.rd0,h.wbl,h.kb.trans k,h.row.but k E5,(k.cell h.row.lt E5).trans h.c0,aV h.own c E8,h.pack.same c E8 E8 E8,h.tiny⟩
theorem fZ.kept(h:fZ mN w wr rb wb a cap bs p v L xs)(k:K_ wr w'):fZ mN w w' rb wb a cap bs p v L xs:=h.drawn (h.rd.kept k) (.ax k)
variable {w1:NN}
theorem fZ.made{b:Nat}(d:Rd w rb a cap bs b)(h:Rd w1 rb a cap bs p)(k:Xj rb (rb+1) w w1):fZ mN w (w1.alloc (.cells #[M3] 25)) rb w1.heap.size a cap bs p M3 [] []:=by
 have e:=X_ w1 #[M3] 25;have c:K_ w1 (w1.alloc (.cells #[M3] 25)):=ah _ _;exact⟨h.kept c,⟨b,d⟩,k.size,k.fV c,ay.made w1 _ _,e 0 _ rfl,Nj _ _ _ _,dF.nil _,λs f=>by simp at f⟩
variable {w2:NN}
theorem fZ.fQ(h:fZ mN w wr rb wb a cap bs p v L xs)(f:K_ wr w1)(i:w1.grownBy w2 v.ownBlock):w2.cell? ⟨wb,0,none⟩=some v/\ay w2 wb 25 1:=by
 have b:=h.kept f;have j:=aD.aI b.own i;let⟨c,d,k⟩:=b.row;have e:=j wb c _ _ E8 d;exact⟨by rw[MC (w:=w1) (e.trans d.symm)];exact b.c0,c,e,k⟩
theorem fZ.push{v' u:NP}{d:Qz}(h:fZ mN w wr rb wb a cap bs p v L xs)(j:K_ wr w1)(m:dE w1 u d.steps)(n:d.TinyN mN)(q:w2.ownsRow w.heap.size 33 3 v' (L.length+1) (xs++[.string d.name,.a d.cost,u]))(e:w1.grownBy w2 v.ownBlock):fZ mN w (w2.setCell ⟨wb,0,none⟩ v') rb wb a cap bs p v' (L++[d]) (xs++[.string d.name,.a d.cost,u]):=by
 have b:=h.kept j;have f:=aD.aI b.own e;have i:=(h.fQ j e).2;have k:=i.same (o:=0) v';have l:Below w.heap.size w1 (w2.setCell ⟨wb,0,none⟩ v'):=((Below.refl _ _).grown e b.kb.size λr f=>(b.own.lt r f).1).setCell h.wbl v';let⟨t,s⟩:=h.rd0;refine⟨b.rd.below s l b.kb.size,h.rd0,h.wbl,b.kb.below l,i.set _,aR i.row E5 _,?_,?_,λy c=>?_⟩
 .have:=aV q k E8;simpa using this
 .exact ((b.pack.snoc m).same f E8 E8 E8).same k E8 E8 E8
 .simp only[Mv,Mt] at c;rcases c with c|rfl
  .exact h.tiny y c
  .exact n
theorem fZ.web(h:fZ mN w wr rb wb a cap bs p v L xs):bS wr v L:=bS.gK h.own h.pack
theorem nT(w:NN)(n:NL)(c:Int)(u:NP):∀j x,([.string n,.a c,u]:List NP)[j]? =some x->(w.alloc (.cells #[.string n,.a c,u] 33)).cell? ((⟨w.heap.size,0,none⟩:Addr).add j)=some x:=λj x a=>by
 rw[Nf];exact X_ w #[.string n,.a c,u] 33 j x a
theorem n_(n:NL)(c:Int)(a:NM)(m k:Nat):∀u∈([.string n,.a c,.slice a m k]:List NP),u.oneCell'=true:=λu b=>by
 simp only[Nh,Ni,or_false] at b;rcases b with rfl|rfl|rfl<;>rfl
theorem AO.g{L:List Xq}(h:AO w v L):dE w v L:=by
 let⟨base,e,b,c,d⟩:=h;exact (StW.gK b c d).g
theorem fZ.ends{M N:Nat}{b:NN}{p' t:Nat}{A0:NN}{e:Ending}(h:fZ M A0 b rb wb a cap bs p' v L xs){c:Nat}(k:ay b c 25 1)(l:w.heap.size<=c)(k0:K_ w A0){m:Nat}(n:Rd w rb a cap bs m)(q:e=.returned (.agg #[v]))(r:p<=p')(h2:p'<=p+t)(s:L.length<=N):jd M N w (b.setCell ⟨c,0,none⟩ v) rb a cap bs p t e:=by
 have x:=k.same (o:=0) v;have d:Below w.heap.size b (b.setCell ⟨c,0,none⟩ v):=(Below.refl _ _).setCell (p:=⟨c,0,none⟩) l _;have f:Xj rb (rb+1) w b:=⟨h.kb.os.trans k0.os,h.kb.tape.trans k0.tape,h.kb.output.trans k0.output,Mm k0.size h.kb.size,λi j y=>(h.kb.block i (Mk j k0.size) y).trans (k0.block i j)⟩;exact⟨v,L,p',q,r,h2,s,h.tiny,h.web.same x E8 E8 E8 E8,h.rd.below n d f.size,f.below d,(lQ.gK h.own).mono k0.size⟩
theorem wh(w:NN)(rb:Nat)(a:NM)(cap:Nat)(bs:List UInt8)(p i n:Nat)(hR:Rd w rb a cap bs p)(hp:p<=800000)(hi:i<=100000)(hn:n<=100000)(B:bs.length<=2000):Calls prog 36 #[.c rb,.a (i:Int),.a (n:Int)] w λe w'=>rO w w' rb a cap bs p 100 e:=by
 have k0:K_ w (w.alloc (.cells #[.a 0,M3] 31)):=ah _ _;have g8:Hid (Rd (w.alloc (.cells #[.a 0,M3] 31)) rb a cap bs p):=hR.kept k0;have g9:Hid (ay (w.alloc (.cells #[.a 0,M3] 31)) w.heap.size 31 2):=ay.made w _ _;have o6:=hR.row.lt;have l1:=Kz hR;go_enter func36,ntmps36
 go_wp2_with fail
 refine (aN _ rb a cap bs p _ 6 rfl g8.o E5 E5 B).mono ?_;rintro e w1 ⟨v1,rfl,l2,h0,h1⟩;have⟨h2,I⟩:=aH h0 h1;clear h0 h1 hR;have J:=Kz (ASt.made g8.o h2.o I.o (1+(v1:Int)));go_wp2_with fail
 refine (aN _ rb a cap bs (p+1) _ 10 rfl J.o.rd E5 E5 B).mono ?_;rintro e C ⟨v2,rfl,l3,h3,h4⟩;have c:=Kz (J.o.drawn h3 h4);have r2:=c.o.row.row.at (i:=0) E5;let⟨⟨_,q0⟩,f0⟩:=r2;have l4:=c.o.row.lt;clear h3 h4;go_upto_if 20 with fail
 go_cut [7] from 21 to 21 (λs7 D=>Le (w.alloc (.cells #[.a 0,M3] 31)) w1.heap.size rb a cap bs p s7 D)
 case first=>
  by_cases R:v2=0
  .have e9:((v2:Int) == 0)=true:=by simp[R]
   go_wp2
   go_meet
   exact⟨20,rfl,E5,c.o.cost⟩
  .have e9:((v2:Int) == 0)=false:=by simpa using R
   go_wp2
   go_meet
   exact⟨_,rfl,E5,c.o⟩
 case rest=>
  obtain⟨cost,rfl,d4,m⟩:=hcut;have j:=Kz m;clear m J c h2 I l2 l3 q0 f0 l4;go_wp2_with fail
  refine (aN _ rb a cap bs (p+2) _ 4 rfl j.o.rd E5 E5 B).mono ?_;rintro e w4 ⟨v4,rfl,l5,a9,b0⟩;have z:=Kz (j.o.drawn a9 b0);clear a9 b0 j;go_upto_region 5 with fail
  go_cut [31] from 25 to 30 (λl6 D=>∃(E:Bool)(p':Nat),l6=.bool E/\p+3<=p'/\p'<=p+4/\ASt (w.alloc (.cells #[.a 0,M3] 31)) D rb w1.heap.size a cap bs p' cost M3 [] [])
  case first=>
   by_cases R:i=0
   .have e9:((i:Int) == 0)=true:=by simp[R]
    clear R;go_wp2_with fail
    refine (aN _ rb a cap bs (p+3) _ 3 rfl z.o.rd E5 E5 B).mono ?_;rintro e w5 ⟨v5,rfl,o7,h5,h6⟩;have h:=Kz (z.o.drawn h5 h6);clear h5 h6;go_wp2
    go_meet
    exact⟨_,p+4,rfl,E5,E5,h.o⟩
   .have e9:((i:Int) == 0)=false:=by simpa using R
    go_wp2
    go_meet
    exact⟨_,p+3,rfl,E5,E5,z.o⟩
  case rest=>
   obtain⟨E,p5,rfl,l7,l8,m⟩:=hcut;have h:=Kz m;clear m z;go_upto_if 31 with fail
   go_cut [8] from 25 to 30 (λs8 D=>LX (w.alloc (.cells #[.a 0,M3] 31)) w1.heap.size rb a cap bs p s8 D)
   case first=>
    cases E
    .go_wp2
     go_meet
     exact⟨v4,cost,p5,rfl,E5,d4,E5,E5,h.o⟩
    .go_wp2
     go_meet
     exact⟨0,cost,p5,rfl,E5,d4,E5,E5,h.o⟩
   case rest=>
    clear l7 l8 h d4 l5;obtain⟨S,cost,l9,rfl,o8,d4,m0,o9,m⟩:=hcut;have N:=Kz m;clear m;go_wp2
    go_loopg [9] S (λg x wr=>∃(k:Nat)(p':Nat)(v:NP)(L:List Xq)(xs:List NP),x=.a (k:Int)/\k+g=S/\L.length=k/\p<=p'/\p'<=p+4+20*k/\ASt (w.alloc (.cells #[.a 0,M3] 31)) wr rb w1.heap.size a cap bs p' cost v L xs)
    case atStart=>exact⟨0,l9,_,[],[],rfl,E5,rfl,m0,E5,N.o⟩
    case round=>
     clear N;obtain⟨k,p7,v,L,xs,rfl,hk,hL,p0,p1,m⟩:=hrel;obtain⟨t,rfl⟩:=aj wr;obtain⟨gO,rfl⟩:=aj gk;have⟨Z,f2⟩:=aH m hL;clear m hL;by_cases m1:(k:Int)<1+(S:Int)-1
     .have f3:=Kz (SSt.made Z.o.rd (els:=(k:Int)+1) (fall:= -1) E5 E5);have zO:=Z.o.rd.row.lt;go_wp2_with fail
      refine (aN _ rb a cap bs p7 _ 4 rfl f3.o.rd E5 E5 B).mono ?_;rintro e w8 ⟨a5,rfl,hq,h7,h8⟩;have b1:=Kz (f3.o.drawn h7 h8);clear h7 h8;go_wp2
      go_loopg [11] a5 (λg x wr=>∃(O:NP)(s:Xq)(p':Nat),x=.a (g:Int)/\g<=a5/\p<=p'/\p'+2*g<=p7+1+2*a5/\s.asks.length+g<=a5/\s.cases=[]/\SSt t wr rb t.heap.size a cap bs p' O M3 s)
      case atStart=>exact⟨_,_,p7+1,rfl,Mj _,E5,E5,E9,rfl,b1.o⟩
      case round=>
       clear f3 b1;obtain⟨O,s,p8,rfl,h9,i0,i1,d5,b2,m⟩:=hrel;have⟨q,a0⟩:=aH m b2;clear m b2;by_cases R:gk=0
       .have d6:¬(0:Int)<(gk:Int):=E5;obtain⟨P,Q,rfl⟩:=aF q.o.asks;obtain⟨wI,rfl⟩:=aj wr;have y0:=q.o.box.c0;have yz:=q.o.box.row.lt;have f6:=q.o.tiny.asks;let⟨H,hm⟩:=aj s.asks.length;rw[<-hm] at y0 d5 f6;have HM:=Kz hm;clear hm;go_upto_if 68 with fail
        go_cut [10,11] from 32 to 116 (λb3 _ D=>∃(y:Xq)(O:NP)(p':Nat),b3=.c t.heap.size/\p<=p'/\p'<=p7+8/\y.cases=[]/\SSt t D rb t.heap.size a cap bs p' O M3 y)
        case first=>
         by_cases p2:(0:Int)<(H:Int)
         .go_wp2_with fail
          refine (oQ _ rb a cap bs p8 H q.o.rd E5 E5 B).mono ?_;rintro e f ⟨v9,rfl,p3,b4,b5⟩;have c:=Kz (q.o.drawn b4 b5);have z2:=c.o.box.row.lt;let⟨⟨_,p4⟩,f1⟩:=c.o.box.cell (o:=1) E5;clear b4 b5;go_wp2
          go_meet
          exact⟨{s with on:=(v9:Int)},_,p8+1,rfl,E5,E5,a0.o,c.o.on (x:=(v9:Int)) E5⟩
         .go_wp2
          go_meet
          exact⟨s,_,p8,rfl,E5,E5,a0.o,q.o⟩
        case rest=>
         clear q a0 y0 yz d5 f6 HM i0 i1 R d6 h9;obtain⟨s,O,p9,rfl,m2,m3,b2,m⟩:=hcut;have⟨q,a0⟩:=aH m b2;clear m b2;go_wp2_with fail
         refine (aN _ rb a cap bs p9 _ 3 rfl q.o.rd E5 E5 B).mono ?_;rintro e p6 ⟨q2,rfl,q1,i2,i3⟩;have b1:=Kz (q.o.drawn i2 i3);clear i2 i3 q;go_wp2
         go_loopg [13] q2 (λg x wr=>∃(vc:NP)(y:Xq)(p':Nat),x=.a (g:Int)/\g<=q2/\p<=p'/\p'+2*g<=p9+1+2*q2/\y.cases.length+g<=q2/\SSt t wr rb t.heap.size a cap bs p' O vc y)
         case atStart=>exact⟨_,s,p9+1,rfl,Mj _,E5,E5,by rw[a0.o];simp,b1.o⟩
         case round=>
          clear b1 a0;obtain⟨vc,y,a1,rfl,h9,q3,q5,d5,m⟩:=hrel;have q:=Kz m;clear m;by_cases R:gk=0
          .have d6:¬(0:Int)<(gk:Int):=E5;obtain⟨ac,cc,rfl⟩:=aF q.o.cases;obtain⟨wJ,rfl⟩:=aj wr;have q6:=q.o.tiny.cases;go_wp2_with fail
           refine (aN _ rb a cap bs a1 _ 3 rfl q.o.rd E5 E5 B).mono ?_;rintro e m4 ⟨b6,rfl,i4,b7,b8⟩;have c:=Kz (q.o.drawn b7 b8);have z2:=c.o.box.row.lt;let⟨⟨_,q4⟩,f4⟩:=c.o.box.cell (o:=4) E5;clear b7 b8 q;go_upto_if 103 with fail
           go_cut [10,13] from 32 to 116 (λb3 _ D=>∃(s'':Xq),b3=.c t.heap.size/\SSt t D rb t.heap.size a cap bs (a1+1) O (.slice ac y.cases.length cc) s'')
           case first=>
            by_cases d7:b6=0
            .have m5:((b6:Int) == 0)=true:=by simp[d7]
             clear d7;go_wp2
             go_meet
             exact⟨_,rfl,c.o.fall (x:=(k:Int)+1) E5⟩
            .have m5:((b6:Int) == 0)=false:=by simpa using d7
             clear d7;go_wp2
             go_meet
             exact⟨y,rfl,c.o⟩
           case rest=>
            clear c q4 f4 z2 i4;obtain⟨s3,rfl,m⟩:=hcut;have j:=Kz m;clear m;go_wp2_with fail
            refine (aN _ rb a cap bs (a1+1) _ 16 rfl j.o.rd E5 E5 B).mono ?_;rintro e m6 ⟨f7,rfl,m7,i5,i6⟩;have z:=Kz (j.o.drawn i5 i6);have z2:=z.o.box.row.lt;let⟨⟨_,q4⟩,f4⟩:=z.o.box.cell (o:=3) E5;clear i5 i6 j;go_upto_if 109 with fail
            go_cut [10] from 32 to 116 (λb3 D=>∃(s'':Xq),b3=.c t.heap.size/\SSt t D rb t.heap.size a cap bs (a1+2) O (.slice ac y.cases.length cc) s'')
            case first=>
             by_cases d8:f7=0
             .have i7:((f7:Int) == 0)=true:=by simp[d8]
              clear d8;go_wp2
              go_meet
              exact⟨_,rfl,z.o.els (x:=0) E5⟩
             .have i7:((f7:Int) == 0)=false:=by simpa using d8
              clear d8;go_wp2
              go_meet
              exact⟨s3,rfl,z.o⟩
            case rest=>
             clear z q4 f4 z2 m7;obtain⟨l,rfl,m⟩:=hcut;have h:=Kz m;clear m;obtain⟨d9,e0,rfl⟩:=aF Z.o.own;have HA:=Kz (Z.o.drawn h.o.rd h.o.kb);obtain⟨aa,ca,a6,a7,rfl,i8,hT⟩:=h.o.cells;rw[i8] at h;have HT:=Kz hT;clear hT i8;have c0:=h.o.box.c0;have q7:=h.o.box.c1;have q8:=h.o.box.c2;have q9:=h.o.box.c3;have r0:=h.o.box.c4;have c5:=h.o.box.c5;have r1:=h.o.box.c6;have c7:=h.o.box.c7;have cz:=h.o.box.row.lt;have r3:=HA.o.c1;have az:=HA.o.row.lt;have m8:L.length<=3:=by have:=f2.o;omega
             have T:K_ wc (wc.alloc (.cells #[.slice aa l.asks.length ca,.a l.on,.slice a6 l.cases.length a7,.a l.els,.a l.fall,.bool l.fin,.bool l.bad,.string l.give] 128)):=ah _ _;have I:=Kz T;have f8:=Kz (HA.o.kept T).own;have e1:=(HA.o.kept T).kb.size;have b9:∀A u,(l.cells aa ca a6 a7)[A]? =some u->(wc.alloc (.cells #[.slice aa l.asks.length ca,.a l.on,.slice a6 l.cases.length a7,.a l.els,.a l.fall,.bool l.fin,.bool l.bad,.string l.give] 128)).cell? ((⟨wc.heap.size,0,none⟩:Addr).add A)=some u:=λA u r=>by rw[Nf];exact X_ wc #[.slice aa l.asks.length ca,.a l.on,.slice a6 l.cases.length a7,.a l.els,.a l.fall,.bool l.fin,.bool l.bad,.string l.give] 128 A u r
             have⟨m9,n0⟩:=aH b9 e1;let⟨ic,c1,c2,c3,c4⟩:=aT Tryz.kH;clear T b9 e1;go_wp2_with (at_builtin;refine wpList_append_own _ rfl (.tmp 112) (.tmp 114) 29 rfl (w.alloc (.cells #[.a 0,M3] 31)).heap.size 128 ic _ 8 96 underlying29 c1 c2 c3 c4 rfl E8 (.slice d9 L.length e0) L.length xs rfl f8.o ⟨wc.heap.size,0,none⟩ 1 1 (l.cells aa ca a6 a7) rfl rfl m9.o (jm l aa ca a6 a7) F5 E5 n0.o ?_;intro U C F G _;have a2:=HA.o.fQ I.o G;have z2:=a2.2.lt;let⟨⟨_,y2⟩,n1⟩:=a2.2.row.at (i:=1) E5;have f9:=Kz F;obtain⟨P,Q,rfl⟩:=aF F;have g0:=Kz G;clear F G a2)
             go_roundg (gO-1)
             case measure=>omega
             case rel=>exact⟨k+1,a1+2,_,L++[l],_,F3,E5,by rw[M_,f2.o];rfl,E5,E5,HA.o.push I.o HT.o h.o.tiny (h.o.oJ rfl rfl) f9.o g0.o⟩
          .have d6:(0:Int)<(gk:Int):=E5;obtain⟨ac,cc,rfl⟩:=aF q.o.cases;have r4:=q.o.tiny.cases;have J:=Kz (q.o.kept (aY wr));have y2:=J.o.box.c2;have r5:=Kz q.o;clear q;obtain⟨H,hm⟩:∃H:Nat,H=S-k:=⟨_,rfl⟩;have r6:H<=3:=E5;have e8:IntKind.i64.wrap ((k:Int)+1)= (k:Int)+1:=G6;have i7:IntKind.i64.wrap (1+(S:Int)-(k:Int))= (H:Int)+1:=G6;have r7:IntKind.i64.wrap (H:Int)= (H:Int):=G6;clear hm;go_upto_region 22 with fail
           refine Qk.region F4 (λw'=>M4 w' t.heap.size 2 (.slice ac y.cases.length cc)) 20 y2 λb=>?_;refine ae 0 b ?_;refine ae 1 b ?_;refine ae 2 b ?_;refine ae 7 b ?_;refine cK 8 (.a ((k:Int)+1)) b ?_ ?_
           .intro u r;try dsimp only at r
            go_simp
            try with_reducible rfl
           try simp only[upP]
           refine ae 9 b ?_;refine ae 10 b ?_;refine ae 11 b ?_;refine cK 12 (.a ((H:Int)+1)) b ?_ ?_
           .intro u r;try dsimp only at r
            go_simp
            try with_reducible rfl
           try simp only[upP]
           refine cK 13 (.a (H:Int)) b ?_ ?_
           .intro u r;try dsimp only at r
            go_simp
            try with_reducible rfl
           try simp only[upP]
           refine aG 3 λK d=>?_;go_simp
           go_at_call 35
           refine (aN _ rb a cap bs a1 _ 3 rfl J.o.rd E5 E5 B).mono ?_;rintro e m4 ⟨b6,rfl,i4,b7,b8⟩;have c:=Kz (J.o.drawn b7 b8);clear b7 b8;dsimp only;refine af d (λ_=>c.o.box.c2) ?_;clear d K b;have b:=c.o.box.c2;refine aG 4 λK d=>?_;go_simp
           go_at_call 80
           refine (uk _ b6 E5).mono ?_;rintro e m6 ⟨g1,rfl,ht,i9⟩;have j:=Kz (c.o.kept i9);clear i9;dsimp only;refine af d (λ_=>j.o.box.c2) ?_;clear d K b;have b:=j.o.box.c2;obtain⟨t1,j0⟩:∃t1:NL,(⟨#[118]⟩:NL)++g1=t1:=⟨_,rfl⟩;have n2:t1.size<=2:=by rw[<-j0,ByteArray.size_append];show 1+g1.size<=2;omega
           have f5:¬9223372036854775807<1+g1.size:=E5;refine cK 5 (.string t1) b ?_ ?_
           .intro u r;try dsimp only at r
            go_simp
            try with_reducible rfl
           try simp only[upP]
           obtain⟨tx,j1⟩:∃tx:NL,t1++(⟨#[40,41]⟩:NL)=tx:=⟨_,rfl⟩;have n3:tx.size<=300:=by rw[<-j1,ByteArray.size_append];show t1.size+2<=300;omega
           have e2:¬9223372036854775807<t1.size+2:=E5;refine cK 6 (.string tx) b ?_ ?_
           .intro u r;try dsimp only at r
            go_simp
            try with_reducible rfl
           try simp only[upP]
           clear j0 j1 f5 e2 n2 ht;refine aG 14 λK d=>?_;go_simp
           go_at_call 35
           refine (aN _ rb a cap bs (a1+1) _ H rfl j.o.rd E5 E5 B).mono ?_;rintro e e3 ⟨V,rfl,r8,j2,j3⟩;have z:=Kz (j.o.drawn j2 j3);clear j2 j3;dsimp only;refine af d (λ_=>z.o.box.c2) ?_;clear d K b;have b:=z.o.box.c2;have r9:IntKind.i64.wrap ((k:Int)+1+(V:Int))= (k:Int)+1+(V:Int):=G6;refine cK 15 (.a ((k:Int)+1+(V:Int))) b ?_ ?_
           .intro u r;try dsimp only at r
            go_simp
            try with_reducible rfl
           try simp only[upP]
           refine ae 16 b ?_;refine ai 17 λK d=>?_;go_simp
           have a3:K_ e3 (e3.alloc (.cells #[.string tx,.a ((k:Int)+1+(V:Int))] 131)):=ah _ _;have h:=Kz (z.o.kept a3);have c6:=Kz a3;refine af d (λ_=>h.o.box.c2) ?_;clear d K b a3;let⟨ic,c1,c2,c3,c4⟩:=aT Tryz.qH;refine ai 18 λK d=>?_;refine step_append_lies _ rfl (.tmp 82) (.tmp 98) 126 rfl t.heap.size 131 ic _ 2 24 underlying126 c1 c2 c3 c4 rfl E8 (.slice ac y.cases.length cc) y.cases.length (bi y.cases) F9 h.o.cases ⟨e3.heap.size,0,none⟩ 1 1 [.string tx,.a ((k:Int)+1+(V:Int))] F9 rfl (λA u r=>by rw[Nf];exact X_ e3 #[.string tx,.a ((k:Int)+1+(V:Int))] 131 A u (by simpa using r)) (λu r=>by simp at r;rcases r with rfl|rfl<;>rfl) E5 F5 E5 h.o.kb.size _ rfl ?_;intro g e4 s0 c8 a4 g2 g3;have W:=Kz (z.o.Bo c6.o a4);have N:=Kz (z.o.tK (x:=⟨tx,(k:Int)+1+(V:Int)⟩) c6.o c8 a4 E5 ⟨n3,by show -1000<=(k:Int)+1+(V:Int);omega,by show (k:Int)+1+(V:Int)<=1000;omega⟩);have z6:=W.o.row.lt;have y6:=W.o.c2;let⟨_,e2⟩:=W.o.cell (o:=2) E5;clear c8 a4 g2 g3;refine af d (λ_=>W.o.c2) ?_;clear d K;have b:=W.o.c2;refine ae 19 b ?_;refine ai 20 λK d=>?_;go_simp
           refine af d (λg4=>NB rfl g4) ?_;clear d K;refine aC ?_;go_wp2
           go_roundg (gk-1)
           case measure=>omega
           case rel=>exact⟨_,_,a1+2,F3,E5,E5,E5,by show (y.cases++[_]).length+(gk-1)<=q2;rw[M_];show y.cases.length+1+(gk-1)<=q2;omega,N.o⟩
       .have d6:(0:Int)<(gk:Int):=E5;go_wp2_with fail
        refine (JS _ rb a cap bs p8 i n q.o.rd E5 hi hn B).mono ?_;rintro e f ⟨x,p9,rfl,hx,m2,m3,b4,b5⟩;have c:=Kz (q.o.drawn b4 b5);have y0:=c.o.box.c0;have yz:=c.o.box.row.lt;clear b4 b5 q;go_upto_region 15 with fail
        go_cut [58] from 43 to 57 (λn4 D=>∃E:Bool,n4=.bool E/\K_ f D)
        case first=>
         let⟨ia,a8,c9,d0,d1⟩:=aT Tryz.gJ;have e5:(f.alloc (.cells #[] 9)).ownsRow f.heap.size 9 1 (.b f.heap.size 0 0) 0 []:=MQ f #[] 0 (Mj _) (Ml _) rfl;have e6:=Kz e5;have kA:K_ f (f.alloc (.cells #[] 9)):=ah _ _;have d2:=Kz kA;have n5:=c.o.tiny.asks;clear e5 kA;have fin:∀(X C:NN)(v1 U:NP)(S:Nat)(j4:List NP),K_ f X->X.ownsRow f.heap.size 9 1 v1 S j4->X.grownBy C v1.ownBlock->C.ownsRow f.heap.size 9 1 U (s.asks.length+1) ((s.asks++[x]).map Value.string)->∃P Q,U=.slice P (s.asks.length+1) Q/\K_ f C/\Calls prog 79 #[.slice P ((s.asks.length+1:Nat):Nat) Q] C λe w'=>(∃E:Bool,e=.returned (.bool E))/\K_ C w':=by
          intro X C v1 U S j4 kA e5 hg hO;let⟨P,Q,e,_,hT⟩:=dw hO;have g5:(s.asks++[x]).length=s.asks.length+1:=E9;rw[g5] at e;refine⟨P,Q,e,?_,CX C P Q _ _ g5 (by rw[g5];omega) (λn6 hy=>?_) hT.strs⟩
          .exact Below.grown kA hg kA.size (λk hk=>(e5.lt k hk).1)
          .simp only[Mv,Mt] at hy;rcases hy with hy|rfl
           .have:=c.o.tiny.eQ n6 hy;omega
           .omega
         have j5:=Kz fin;clear fin;rcases c.o.asks.2 with⟨ev,j6⟩|⟨g,cp,s1,ev,n7,j7,s2,_,_,_⟩
         .subst ev;have n8:Hid (s.asks=[]):=NE j6;have j8:=Kz (au e6.o ((K_.refl _).alloc (.cells #[.string x] 9)));have j9:=Kz (d2.o.alloc (.cells #[.string x] 9));have k1:∀A u,([.string x]:List NP)[A]? =some u->((f.alloc (.cells #[] 9)).alloc (.cells #[.string x] 9)).cell? ((⟨f.heap.size+1,0,none⟩:Addr).add A)=some u:=by
           have:=lu (f.alloc (.cells #[] 9)) x;rw[MZ] at this;exact this
          have n9:=Kz k1;have g6:=j9.o.size;clear j6 k1 d5 n5;go_wp2_with (first|(at_builtin;refine wpList_append_own_none _ rfl (.tmp 51) (.tmp 53) 26 rfl f.heap.size 9 ia 1 underlying26 a8 (.b f.heap.size 0 0) 0 [] rfl e6.o rfl ?_)|(at_builtin;refine wpList_append_own _ rfl (.tmp 54) (.tmp 56) 26 rfl f.heap.size 9 ia _ 1 16 underlying26 a8 c9 d0 d1 rfl E8 (.b f.heap.size 0 0) 0 [] rfl j8.o ⟨f.heap.size+1,0,none⟩ 1 1 [.string x] rfl rfl n9.o (kM x) F5 E5 g6 ?_;intro U C F G _;obtain⟨P,Q,rfl,k2,hC⟩:=j5.o _ C _ U 0 [] j9.o j8.o G (by rw[n8.o];exact F);have HC:=Kz hC;have g7:=Kz k2;clear F G hC k2))
          refine HC.o.mono ?_;rintro e w3 ⟨⟨E,rfl⟩,k3⟩;go_wp2
          go_meet
          exact⟨E,rfl,g7.o.trans k3⟩
         .subst ev;have b9:∀A u,(s.asks.map Value.string)[A]? =some u->(f.alloc (.cells #[] 9)).cell? ((⟨g,0,none⟩:Addr).add A)=some u:=λA u r=>(au c.o.asks d2.o).cells (g:=g) rfl A u r
          have o0:=Kz b9;have g6:=d2.o.size;have s4:=aM j7;clear b9 j7 n7;go_wp2_with (first|(at_builtin;refine wpList_append_own _ rfl (.tmp 51) (.tmp 53) 26 rfl f.heap.size 9 ia _ 1 16 underlying26 a8 c9 d0 d1 rfl E8 (.b f.heap.size 0 0) 0 [] rfl e6.o ⟨g,0,none⟩ s.asks.length cp (s.asks.map Value.string) rfl E9 o0.o (w_ _) F5 E5 g6 ?_;intro v1 X e7 k4 _;rw[MR,List.nil_append] at e7;obtain⟨o1,o2,rfl⟩:=aF e7;have I:=Kz (Below.grown d2.o k4 d2.o.size λk hk=>(e6.o.lt k hk).1);have k5:=Kz (au e7 ((K_.refl X).alloc (.cells #[.string x] 9)));have o3:f.heap.size<=(X.alloc (.cells #[.string x] 9)).heap.size:=(K_.alloc (a:=f) I.o (.cells #[.string x] 9)).size;clear e7 k4)|(at_builtin;refine wpList_append_own _ rfl (.tmp 54) (.tmp 56) 26 rfl f.heap.size 9 ia _ 1 16 underlying26 a8 c9 d0 d1 rfl E8 (.slice o1 s.asks.length o2) s.asks.length (s.asks.map Value.string) rfl k5.o ⟨X.heap.size,0,none⟩ 1 1 [.string x] rfl rfl (lu X x) (kM x) F5 E5 o3 ?_;intro U C F G _;obtain⟨P,Q,rfl,k2,hC⟩:=j5.o _ C _ U _ _ (K_.alloc (a:=f) I.o (.cells #[.string x] 9)) k5.o G (by rw[ND];exact F);have HC:=Kz hC;have g7:=Kz k2;clear F G hC k2))
          refine HC.o.mono ?_;rintro e w3 ⟨⟨E,rfl⟩,k3⟩;go_wp2
          go_meet
          exact⟨E,rfl,g7.o.trans k3⟩
        case rest=>
         obtain⟨E,rfl,k6⟩:=hcut;have j:=Kz (c.o.kept k6);clear c y0 yz k6;have y0:=j.o.box.c0;have yz:=j.o.box.row.lt;let⟨_,f0⟩:=j.o.box.cell (o:=0) E5;cases E
         .go_wp2
          go_roundg (gk-1)
          case measure=>omega
          case rel=>exact⟨O,s,p9,F3,E5,E5,E5,E5,a0.o,j.o⟩
         .obtain⟨ia,a8,c9,d0,d1⟩:=aT Tryz.gJ;have T:K_ wc (wc.alloc (.cells #[.string x] 9)):=ah _ _;have I:=Kz T;have f8:=Kz (j.o.kept T).asks;have e1:=(j.o.kept T).kb.size;have f6:=j.o.tiny.asks;clear T;go_wp2_with (at_builtin;refine wpList_append_own _ rfl (.tmp 60) (.tmp 62) 26 rfl t.heap.size 9 ia _ 1 16 underlying26 a8 c9 d0 d1 rfl E8 O s.asks.length (s.asks.map Value.string) rfl f8.o ⟨wc.heap.size,0,none⟩ 1 1 [.string x] rfl rfl (lu wc x) (kM x) F5 E5 e1 ?_;intro U C F G _;have a2:=j.o.uG I.o G;have y2:=a2.c0;have z2:=a2.row.lt;let⟨_,n1⟩:=a2.cell (o:=0) E5;have f9:=Kz F;obtain⟨P,Q,rfl⟩:=aF F;have g0:=Kz G;clear F G a2)
          go_roundg (gk-1)
          case measure=>omega
          case rel=>exact⟨_,{s with asks:=s.asks++[x]},p9,F3,E5,E5,E5,by show (s.asks++[x]).length+(gk-1)<=a5;rw[M_];show s.asks.length+1+(gk-1)<=a5;omega,a0.o,j.o.qj I.o f9.o g0.o E5 E5⟩
     .have s5:k=S:=E5;clear m1;obtain⟨d9,e0,rfl⟩:=aF Z.o.own;have J:=Kz (Z.o.kept (aY t));have s6:Hid (ay t w.heap.size 31 2):=g9.o.but Z.o.kb E5;have y1:=J.o.c1;have m8:L.length<=3:=by have:=f2.o;omega
      have s9:=Kz Z.o;go_upto_region 28 with fail
      refine Qk.region F4 (λw'=>M4 w' w1.heap.size 1 (.slice d9 L.length e0)) 11 y1 λb=>?_;refine ae 0 b ?_;refine ae 1 b ?_;refine ae 2 b ?_;refine ae 5 b ?_;refine aG 3 λK d=>?_;go_simp
      go_at_call 35
      refine (aN _ rb a cap bs p7 _ 8 rfl J.o.rd E5 E5 B).mono ?_;rintro e w3 ⟨v3,rfl,o4,k7,k8⟩;have c:=Kz (J.o.drawn k7 k8);clear k7 k8;dsimp only;refine af d (λ_=>c.o.c1) ?_;clear d K b;have b:=c.o.c1;obtain⟨M,o5⟩:∃M:Bool,((v3:Int) == 0)=M:=⟨_,rfl⟩;refine cK 4 (.bool M) b ?_ ?_
      .intro u r;try dsimp only at r
       go_simp
       try with_reducible rfl
      try simp only[upP]
      clear o5 o4;refine aG 6 λK d=>?_;go_simp
      go_at_call 81
      refine (IW _ rb a cap bs (p7+1) c.o.rd E5 B).mono ?_;rintro e w4 ⟨Y,p8,rfl,t0,i0,i1,a9,b0⟩;have j:=Kz (c.o.drawn a9 b0);clear a9 b0;dsimp only;refine af d (λ_=>j.o.c1) ?_;clear d K b;have b:=j.o.c1;refine ae 7 b ?_;refine ai 8 λK d=>?_;go_simp
      have a3:K_ w4 (w4.alloc (.cells #[M3,.a 0,M3,.a 0,.a 0,.bool true,.bool M,.string Y] 128)):=ah _ _;have h:=Kz (j.o.kept a3);have c6:=Kz a3;refine af d (λ_=>h.o.c1) ?_;clear d K b a3;let⟨ic,c1,c2,c3,c4⟩:=aT Tryz.kH;refine ai 9 λK d=>?_;refine step_append_lies _ rfl (.tmp 118) (.tmp 125) 29 rfl (w.alloc (.cells #[.a 0,M3] 31)).heap.size 128 ic _ 8 96 underlying29 c1 c2 c3 c4 rfl E8 (.slice d9 L.length e0) L.length xs F9 h.o.own ⟨w4.heap.size,0,none⟩ 1 1 [M3,.a 0,M3,.a 0,.a 0,.bool true,.bool M,.string Y] F9 rfl (λA u r=>by rw[Nf];exact X_ w4 #[M3,.a 0,M3,.a 0,.a 0,.bool true,.bool M,.string Y] 128 A u (by simpa using r)) (jm ⟨[],0,[],0,0,true,M,Y⟩ none 0 none 0) E5 F5 E5 h.o.kb.size _ rfl ?_;intro g e4 w5 c8 a4 g2 g3;have W:=Kz (j.o.fQ c6.o a4);have k9:lU w4 9 131 [M3,.a 0,M3,.a 0,.a 0,.bool true,.bool M,.string Y] ⟨[],0,[],0,0,true,M,Y⟩:=⟨none,0,none,0,rfl,.inl rfl,.inl rfl,Mj _⟩;have l0:Xq.Tiny ⟨[],0,[],0,0,true,M,Y⟩:=⟨E9,λx hx=>by simp at hx,⟨I1,I4⟩,E9,λx hx=>by simp at hx,nV ⟨I1,I4⟩,⟨I1,I4⟩,by show Y.size<=300;omega⟩;have N:=Kz (j.o.push c6.o k9 l0 (kD (s:=⟨[],0,[],0,0,true,M,Y⟩) (λ_=>⟨rfl,rfl⟩) λ_=>⟨rfl,rfl⟩) c8 a4);let⟨⟨_,y6⟩,e2⟩:=W.o.2.row.at (i:=1) E5;have z6:=W.o.2.lt;have y7:=W.o.1
      skip
      clear c8 a4 g2 g3 k9 l0;refine af d (λ_=>y7) ?_;clear d K;have b:=y7;refine ae 10 b ?_;refine ai 11 λK d=>?_;go_simp
      refine af d (λg4=>NB rfl g4) ?_;clear d K;refine aC ?_;have t2:=N.o.c0;have t3:=N.o.c1;have oz:=N.o.row.lt;have d3:=Kz (g9.o.but N.o.kb E5);let⟨⟨_,t4⟩,t5⟩:=d3.o.row.at (i:=0) E5;let⟨⟨_,x1⟩,t6⟩:=d3.o.row.at (i:=1) E5;have xz:=d3.o.lt;clear b y6 e2 z6 y7;go_wp2
      have hR:=Mo (w5.setCell ⟨w1.heap.size,1,none⟩ (.b g (L.length+1) e4)) w.heap.size 0 [.a cost,.b g (L.length+1) e4] (d3.o.row.there (o:=0) (m:=2) (Mj _));refine Zx [.a cost,.b g (L.length+1) e4] _ results36 rfl hR underlying31 rfl Tryz.iN rfl ?_;exact N.o.ends d3.o k0 l1.o rfl E5 E5 (by rw[M_];show 1<=L.length+1;omega) (by rw[M_];show L.length+1<=20;omega) E5
theorem yu(w:NN)(rb:Nat)(a:NM)(cap:Nat)(bs:List UInt8)(p i n:Nat)(b c:Int)(d:b= (i:Int))(f:c= (n:Int))(h:Rd w rb a cap bs p)(j:p<=800000)(hi:i<=100000)(k:n<=100000)(l:bs.length<=2000):Calls prog 36 #[.c rb,.a b,.a c] w λe w'=>rO w w' rb a cap bs p 100 e:=by
 rw[d,f];exact wh w rb a cap bs p i n h j hi k l
theorem jD(w:NN)(i:Nat)(a:Int)(b:a= (i:Int))(hi:i<=100000):Calls prog 34 #[.a a] w λe w'=>BN w w' e:=by
 rw[b];exact ni w i hi
def qD(F t M N B:Nat):Prop:=∀(w:NN)(rb:Nat)(a:NM)(cap:Nat)(bs:List UInt8)(p:Nat),Rd w rb a cap bs p->p<=B->bs.length<=2000->
 Calls prog F #[.c rb] w λe w'=>jd M N w w' rb a cap bs p t e
theorem jd.via{M N:Nat}{A0:NN}{d t t':Nat}{e:Ending}(r:jd M N w1 w2 rb a cap bs d t e)(c:Xj rb (rb+1) A0 w1)(k0:K_ w A0)(H:p<=d)(h2:d+t<=p+t')(s:Rd w rb a cap bs p){b:Nat}(x:w.heap.size<=b)(y:ay w1 b 25 1)(I:b≠rb):∃v,e=.returned (.agg #[v])/\ay w2 b 25 1/\(∃va vn vc,v=.slice va vn vc)/\jd M N w (w2.setCell ⟨b,0,none⟩ v) rb a cap bs p t' e:=by
 let⟨v,L,A,f,J,K,B,C,h,D,i,E⟩:=r;have j:ay w2 b 25 1:=y.but i E5;have F:=j.same (o:=0) v;have k:Below w.heap.size w2 (w2.setCell ⟨b,0,none⟩ v):=(Below.refl _ _).setCell (p:=⟨b,0,none⟩) x _;have l:Xj rb (rb+1) w w1:=⟨c.os.trans k0.os,c.tape.trans k0.tape,c.output.trans k0.output,Mm k0.size c.size,λm n G=>(c.block m (Mk n k0.size) G).trans (k0.block m n)⟩;have q:=l.trans i;obtain⟨va,vc,rfl,_,_⟩:=h.slice;exact⟨_,f,j,⟨_,_,_,rfl⟩,_,L,A,f,E5,E5,B,C,h.same F E8 E8 E8 E8,D.below s k q.size,q.below k,E.mono l.size⟩
theorem GN(c7:Hid (qD 137 400 20 60 700000))(c8:Hid (qD 138 400 20 60 700000)):qD 77 1100 20 60 600000:=by
 intro w j a l n p f hp C;have U:K_ w (w.alloc (.cells #[M3] 25)):=ah _ _;have b0:Hid (Rd (w.alloc (.cells #[M3] 25)) j a l n p):=f.kept U;have y:Hid (ay (w.alloc (.cells #[M3] 25)) w.heap.size 25 1):=ay.made w _ _;have e9:=f.row.lt;have a4:=Kz f;clear f;go_enter func77,ntmps77
 go_wp2_with fail
 refine (aN _ j a l n p _ 10 rfl b0.o E5 E5 C).mono ?_;rintro A e ⟨V,rfl,f1,b1,a5⟩;have⟨W,X⟩:=aH b1 a5;have D:=Kz (y.o.but a5 E5);clear b1 a5;by_cases Y:V=0
 .have c9:((V:Int) == 0)=true:=by simp[Y]
  clear Y;go_wp2_with fail
  refine (c7.out _ j a l n (p+1) W.o E5 C).mono ?_;intro A Z E;obtain⟨v,rfl,q,⟨F,G,H,rfl⟩,I⟩:=E.via (p:=p) X.o U E5 E5 a4.o (Mj _) D.o E5 (t':=1100);have⟨HD,a6⟩:=aH I q;have z2:=q.lt;let⟨⟨_,u0⟩,f0⟩:=q.row.at (i:=0) E5;clear I E q;go_wp2
  have f:=Mo Z w.heap.size 0 [.slice F G H] (a6.o.row.there (o:=0) (m:=1) (Mj _));exact Zx [.slice F G H] _ results77 rfl f underlying25 rfl Tryz.gZ rfl HD.o
 have c9:((V:Int) == 0)=false:=by simpa using Y
 clear Y;by_cases h4:(V:Int)<4
 .go_wp2_with fail
  refine (c8.out _ j a l n (p+1) W.o E5 C).mono ?_;intro A Z E;obtain⟨v,rfl,q,⟨F,G,H,rfl⟩,I⟩:=E.via (p:=p) X.o U E5 E5 a4.o (Mj _) D.o E5 (t':=1100);have⟨HD,a6⟩:=aH I q;have z2:=q.lt;let⟨⟨_,u0⟩,f0⟩:=q.row.at (i:=0) E5;clear I E q;go_wp2
  have f:=Mo Z w.heap.size 0 [.slice F G H] (a6.o.row.there (o:=0) (m:=1) (Mj _));exact Zx [.slice F G H] _ results77 rfl f underlying25 rfl Tryz.gZ rfl HD.o
 have a7:Hid (fZ 20 (w.alloc (.cells #[M3] 25)) (e.alloc (.cells #[M3] 25)) j e.heap.size a l n (p+1) M3 [] []):=fZ.made b0.o W.o X.o;have b2:Hid (ay (e.alloc (.cells #[M3] 25)) w.heap.size 25 1):=D.o.kept (ah _ _);go_wp2_with fail
 refine (aN _ j a l n (p+1) _ 9 rfl a7.o.rd E5 E5 C).mono ?_;rintro A Z ⟨v2,rfl,f2,b3,a8⟩;have b4:=Kz (a7.o.drawn b3 a8);have J:=Kz (b2.o.but a8 E5);have d0:w.heap.size≠e.heap.size:=λA=>by have:=D.o.lt;omega
 obtain⟨L,f3⟩:∃L:Nat,L=2+v2:=⟨_,rfl⟩;clear b3 a8 a7 b2 D W X;go_wp2
 go_loopg [6] L (λg d1 wr=>∃(k:Nat)(p':Nat)(v:NP)(a0:List Qz)(xs:List NP),d1=.a (k:Int)/\k+g=L/\a0.length=k/\p<=p'/\p'<=p+2+100*k/\ay wr w.heap.size 25 1/\fZ 20 (w.alloc (.cells #[M3] 25)) wr j e.heap.size a l n p' v a0 xs)
 case atStart=>exact⟨0,p+2,_,[],[],rfl,E5,rfl,E5,E5,J.o,b4.o⟩
 case round=>
  clear b4 J;obtain⟨k,p7,v,a0,xs,rfl,hk,hL,f4,f5,b5,B⟩:=hrel;obtain⟨wO,rfl⟩:=aj wr;have⟨HO,r,y⟩:=di B hL b5;obtain⟨M,O,rfl⟩:=aF B.own;have y0:=B.c0;have zb:=B.row.lt;have f6:=B.kb.size;rw[hL] at y0;clear B hL b5;by_cases f7:(k:Int)<2+(v2:Int)
  .have d2:Hid (∀v:NN,v.cell? ⟨e.heap.size,0,none⟩=wO.cell? ⟨e.heap.size,0,none⟩->(λ(v:NN)=>M4 v e.heap.size 0 (.slice M k O)) v):=λv hv=>hv.trans y0
   let⟨d3,d4,d5,d6,d7⟩:=aT Tryz.nD;go_wp2
   refine Qk.region F4 (λ(v:NN)=>M4 v e.heap.size 0 (.slice M k O)) 12 y0 λb=>?_;refine ae 0 b ?_;refine ae 1 b ?_;refine ae 2 b ?_;refine ae 4 b ?_;refine ae 5 b ?_;refine ae 6 b ?_;refine aG 3 λK c=>?_;go_simp
   go_at_call 34
   refine (jD _ k _ rfl E5).mono ?_;rintro A w3 ⟨s,rfl,f8,k3⟩;have K3:K_ wO w3:=(aY _).trans k3;dsimp only;refine c.out _ _ (λ_=>d2.o w3 (K3.cell zb)) ?_;clear c K b k3;have a1:=Kz (HO.o.kept K3);have J:=Kz (y.o.kept K3);have y3:=(K3.cell (o:=0) zb).trans y0;have f9:=a1.o.row.lt;have b:=y3;try simp only[upP]
   refine aG 7 λK c=>?_;go_simp
   go_at_call 36
   refine (yu _ j a l n p7 k L _ _ rfl E5 a1.o.rd E5 E5 E5 C).mono ?_;rintro A P ⟨cost,us,x,p8,rfl,g0,g1,d8,d9,b6,b7,b8,b9,a9⟩;have Q:=Kz (a1.o.drawn b9 a9);have e0:=Kz (J.o.but a9 E5);have y4:=Q.o.c0;rw[r.o] at y4;have c1:=Kz b8.g;obtain⟨R,S,rfl⟩:=c1.o.slice;have e1:Hid (Qz.TinyN 20 ⟨s,cost,x⟩):=⟨by show s.size<=300;omega,b6,by show x.length<=21;omega,b7⟩;dsimp only;refine c.out _ _ (λ_=>y4) ?_;clear c K b b8 b9 a9 d8 d9 b6 b7 y3 a1 J;have e2:=Q.o.row.lt;have b:=y4;try simp only[upP]
   refine ae 8 b ?_;refine ai 9 λK c=>?_;go_simp
   have z:K_ P (P.alloc (.cells #[.string s,.a cost,.slice R x.length S] 33)):=ah _ _;refine af c (λ_=>(z.cell e2).trans y4) ?_;clear c K b;refine ai 10 λK c=>?_;have c2:=Kz (Q.o.kept z);have a2:=c2.o.own;rw[r.o] at a2;have e3:=c2.o.kb.size;refine step_append_lies _ rfl (.tmp 27) (.tmp 35) 23 rfl (w.alloc (.cells #[M3] 25)).heap.size 33 d3 _ 3 48 underlying23 d4 d5 d6 d7 rfl E8 (.slice M k O) k xs F9 a2 ⟨P.heap.size,0,none⟩ 1 1 [.string s,.a cost,.slice R x.length S] F9 rfl (nT _ _ _ _) (n_ _ _ _ _ _) E5 F5 E5 e3 _ rfl ?_;intro g c3 w6 c4 a3 e4 g2;have T:=Q.o.fQ z (by rw[r.o];exact a3);have y6:=T.1;rw[r.o] at y6;have g3:=T.2.lt;have g4:=(T.2.row.at (i:=0) E5).2;let⟨vo,g5⟩:=(T.2.row.at (i:=0) E5).1;have e5:Hid (fZ 20 (w.alloc (.cells #[M3] 25)) (w6.setCell ⟨e.heap.size,0,none⟩ (.b g (k+1) c3)) j e.heap.size a l n p8 (.b g (k+1) c3) (a0++[⟨s,cost,x⟩]) (xs++[.string s,.a cost,.slice R x.length S])):=
    Q.o.push (d:=⟨s,cost,x⟩) z (c1.o.same (u:=25) (.ax z) E8 E8 E8) e1.o (by rw[r.o];exact c4) (by rw[r.o];exact a3)
   have c5:=aD.aI a2 a3;have e6:Hid (ay w6 w.heap.size 25 1):=by
    let⟨c6,e7,e8⟩:=e0.o.kept z;exact⟨c6,c5 _ c6 _ _ E8 e7,e8⟩
   clear T a2 c4 a3 e4 c5 z;refine af c (λ_=>y6) ?_;clear c K;have b:=y6;refine ae 11 b ?_;refine ai 12 λK c=>?_;go_simp
   refine af c (λh=>NB rfl h) ?_;clear c K;refine aC ?_;go_wp2
   go_roundg (gk-1)
   case rel=>exact⟨k+1,p8,_,_,_,F3,E5,by rw[M_,r.o];rfl,E5,E5,e6.o.block (Below.heap_setCell _ _ _ _ (by simpa using d0)),e5.o⟩
   case measure=>omega
  .obtain⟨⟨_,x0⟩,g6⟩:=y.o.row.at (i:=0) E5;have z1:=y.o.lt;go_wp2
   have f:=Mo wO w.heap.size 0 [.slice M k O] (y.o.row.there (o:=0) (m:=1) (Mj _));have hE:=HO.o.ends (N:=60) (p:=p) (t:=1100) y.o (Mj _) U a4.o rfl E5 E5 (by have:=r.o;omega);rw[r.o] at hE;exact Zx [.slice M k O] _ results77 rfl f underlying25 rfl Tryz.gZ rfl hE
def y_(v:NP)(n:Nat):Prop:=∃g c,v=.b g n c
theorem sQ{base size:Nat}{e:TypeId}(h:w.ownsRow base e size v n xs)(c:0<n):y_ v n:=by
 rcases h.2 with⟨_,e⟩|⟨g,b,d,e,_⟩
 .omega
 .exact⟨g,b,e⟩
def yY(w w':NN)(rb:Nat)(a:NM)(cap:Nat)(bs:List UInt8)(p:Nat)(e:Ending):Prop:=∃(g c:Nat)(l:List NL)(p':Nat),e=.returned (.b g l.length c)/\l.length<=c/\l.length<=12/\(∀x∈l,x.size<=300)/\eX w' 9 (some ⟨g,0,none⟩) l/\p<=p'/\p'<=p+20/\Rd w' rb a cap bs p'/\Xj rb (rb+1) w w'
section
variable {W wr:NN}{rb:Nat}{a:NM}{cap:Nat}{bs:List UInt8}{p q:Nat}{v:NP}{l:List NL}
theorem OSt.Kj(h:OSt W wr rb a cap bs q v l)(d:y_ v l.length)(f:l.length<=12)(i:p<=q)(h2:q<=p+20):yY W wr rb a cap bs p (.returned v):=by
 let⟨n,c,e,j,k⟩:=dw h.own;let⟨g,m,b⟩:=d;rw[b] at e;simp only[Nb] at e;obtain⟨rfl,_,rfl⟩:=e;exact⟨g,m,l,q,by rw[b],j,f,h.sz,k,i,h2,h.rd,h.kb⟩
theorem OSt.front{v':NP}{x:NL}(h:OSt W wr rb a cap bs q v l)(k:K_ wr w2)(d:w2.ownsRow W.heap.size 9 1 v' (1+l.length) ([.string x]++l.map Value.string))(e:x.size<=300):OSt W w2 rb a cap bs q v' (x :: l):=by
 refine⟨h.rd.kept k,h.rd0,h.kb.fV k,by rw[Nc,Nat.add_comm];exact d,λy c=>?_⟩;rcases Nh.1 c with rfl|c
 .exact e
 .exact h.sz y c
theorem OSt.strs(h:OSt W wr rb a cap bs q v l):∃sa c,v=.slice sa l.length c/\l.length<=c/\eX wr 9 sa l:=dw h.own
theorem Dk{l:List NL}{i:Nat}(hi:i<=26)(h:∀j,j<i->kU j∈l):i<=l.length:=by
 have b:((List.range i).map kU).Nodup:=by
  rw[List.Nodup,List.pairwise_map];refine List.Pairwise.imp_of_mem ?_ List.pairwise_lt_range;intro x y a c f d;have k:=List.mem_range.1 a;have m:=List.mem_range.1 c;have:=Ej E5 E5 d;omega
 have:=List.Nodup.length_le_of_subset b (l₂:=l) (λx a=>by
  obtain⟨j,e,rfl⟩:=MM.1 a;exact h j (List.mem_range.1 e))
 simpa using this
end
theorem FR(w:NN)(rb:Nat)(a:NM)(cap:Nat)(bs:List UInt8)(p:Nat)(T:NM)(A:Nat)(L:List Qz)(hR:Rd w rb a cap bs p)(hp:p<=900000)(U:bs.length<=2000)(hN:bS w (.slice T L.length A) L)(hL:L.length<=100000)(B:∀d∈L,d.name.size<=300):Calls prog 33 #[.c rb,.agg #[.slice T L.length A]] w λe w'=>yY w w' rb a cap bs p e:=by
 let⟨C,Z⟩:=aj (w.alloc (.cells #[.slice T L.length A] 25));have kB:K_ w C:=by rw[Z];exact ah _ _
 have b0:C.cell? ⟨w.heap.size,0,none⟩=some (.slice T L.length A):=by rw[Z];exact X_ w _ _ 0 _ rfl
 have a9:w.heap.size<C.heap.size:=by rw[Z];simp
 have f:=Kz (OSt.made hR (hR.kept kB) (.ax kB));have h:K_ C (C.alloc (.cells #[] 9)):=ah _ _;have b7:=(h.cell a9).trans b0;have b1:=Kz (hN.nodes.kept (kB.trans h));go_enter func33,ntmps33
 have b8:=Mk a9 h.size;rw[Z] at b7 f b1 b8;rw[MZ] at f;clear h kB b0 a9 hN Z C;go_upto_if 13 with fail
 have b9:y_ (.b (w.heap.size+1) 0 0) 0:=⟨_,_,rfl⟩;go_cut [5] from 13 to 25 (λs5 wx=>∃l:List NL,OSt w wx rb a cap bs p s5 l/\y_ s5 l.length/\l.length<=1)
 case first=>
  by_cases f2:0<L.length
  .have hk:L.length-1<L.length:=E5;let⟨nb,no,cs,e1,f3,b2,c0⟩:=b1.out (L.length-1) hk;let⟨x,I⟩:=aj ((L.getD (L.length-1) Qz.zero).name);have d4:x.size<=300:=by
    rw[I];simp only[List.getD,Mq hk,NC];exact B _ (Mw hk)
   let⟨b3,hm⟩:=aj (L.length-1);rw[<-hm] at b2 I c0;let⟨sa,sc,e2,_⟩:=c0;have f4:M4 ((w.alloc (.cells #[.slice T L.length A] 25)).alloc (.cells #[] 9)) nb (no+b3*3) (.string x):=by
    have:=b2 0 (.string x) (by rw[e2,I];rfl);simpa using this
   have e5:(L.length:Int)-1= (b3:Int):=E5;have e6:(b3:Int)<(L.length:Int):=E5;subst e1;have K1:K_ ((w.alloc (.cells #[.slice (some ⟨nb,no,none⟩) L.length A] 25)).alloc (.cells #[] 9)) (((w.alloc (.cells #[.slice (some ⟨nb,no,none⟩) L.length A] 25)).alloc (.cells #[] 9)).alloc (.cells #[.string x] 9)):=ah _ _;have D:=Kz K1;have E:=Kz (f.o.kept K1).own;have J:=(f.o.kept K1).kb.size;let⟨K,M,N,O,P⟩:=aT Tryz.gJ;clear I hm b2 e2 hk K1;go_wp2_with (at_builtin;refine wpList_append_own _ rfl (.tmp 14) (.tmp 24) 26 rfl w.heap.size 9 K _ 1 16 underlying26 M N O P rfl E8 (.b (w.heap.size+1) 0 0) 0 [] rfl E.o ⟨w.heap.size+2,0,none⟩ 1 1 [.string x] rfl rfl (by simpa using lu ((w.alloc (.cells #[.slice (some ⟨nb,no,none⟩) L.length A] 25)).alloc (.cells #[] 9)) x) (kM x) F5 E5 J ?_;intro v' w2 k t _;have Q:=Kz (f.o.push D.o k t d4);have R:=sQ k E5;clear k t)
   go_meet
   exact⟨[x],Q.o,R,Mj _⟩
  .go_wp2
   go_meet
   exact⟨[],f.o,b9,Ml _⟩
 case rest=>
  let⟨l0,F,G,hl⟩:=hcut;have⟨b4,c1⟩:=aH F G;clear F G f b9 b1 b7 b8;go_wp2_with fail
  refine (aN _ rb a cap bs p _ 4 rfl b4.o.rd E5 E5 U).mono ?_;rintro e w2 ⟨a5,rfl,hn,c2,c3⟩;have c4:=Kz (b4.o.drawn c2 c3);go_wp2
  go_loopg [5,6] a5 (λg a0 x6 wr=>∃(p':Nat)(l:List NL),x6=.a (g:Int)/\g<=a5/\p<=p'/\p'+2*g<=p+1+2*a5/\l.length+g<=1+a5/\OSt w wr rb a cap bs p' a0 l/\y_ a0 l.length)
  case atStart=>exact⟨p+1,l0,rfl,Mj _,E5,E5,E5,c4.o,c1.o⟩
  case round=>
   clear c4 c1 hl;obtain⟨z,l,rfl,hg,f5,d5,d6,F,G⟩:=hrel;have⟨f,V⟩:=aH F G;obtain⟨a1,oc,rfl⟩:=G;by_cases f6:(0:Int)<(gk:Int)
   .go_wp2_with fail
    refine (aN _ rb a cap bs z _ 12 rfl f.o.rd E5 E5 U).mono ?_;rintro e w3 ⟨v,rfl,d7,a2,a3⟩;have y:=Kz (f.o.drawn a2 a3);go_wp2_with fail
    refine (jD _ v _ rfl E5).mono ?_;rintro e w4 ⟨x0,rfl,f7,k4⟩;have r:=Kz (y.o.kept k4);go_wp2_with fail
    refine (aN _ rb a cap bs (z+1) _ 10 rfl r.o.rd E5 E5 U).mono ?_;rintro e w5 ⟨q5,rfl,f8,c5,c6⟩;have H:=Kz (r.o.drawn c5 c6);go_upto_if 37 with fail
    go_cut [7] from 37 to 38 (λs7 wx=>∃x:NL,s7=.string x/\x.size<=300/\wx=w5)
    case first=>
     by_cases h5:q5=0
     .have e5:((q5:Int) == 0)=true:=by simp[h5]
      clear h5;go_wp2
      go_meet
      exact⟨_,rfl,E8,rfl⟩
     .have e5:((q5:Int) == 0)=false:=by simpa using h5
      clear h5;go_wp2
      go_meet
      exact⟨_,rfl,E5,rfl⟩
    case rest=>
     obtain⟨x,rfl,I,rfl⟩:=hcut;have a6:Hid (Strs wc (some ⟨a1,0,none⟩) l):=by
      let⟨sa,c,e,_,B⟩:=H.o.strs;simp only[Nb] at e;obtain⟨rfl,_,_⟩:=e;exact B.strs
     go_wp2_with fail
     refine (uE _ (some ⟨a1,0,none⟩) oc l x E5 a6.o).mono ?_;rintro e s ⟨b5,rfl⟩;rcases b5.cases with⟨rfl,_⟩|⟨rfl,_⟩
     .go_wp2
      go_roundg (gk-1)
      case measure=>omega
      case rel=>exact⟨z+2,l,F3,E5,E5,E5,E5,H.o,V.o⟩
     .obtain⟨K,M,N,O,P⟩:=aT Tryz.gJ;have h:K_ s (s.alloc (.cells #[.string x] 9)):=ah _ _;have D:=Kz h;have E:Hid ((s.alloc (.cells #[.string x] 9)).ownsRow s.heap.size 9 1 (.b s.heap.size 1 1) 1 ([x].map Value.string)):=World.ownsRow_lit s #[.string x] 1 (Mj _) E8 rfl;have d8:Hid (∀j u,(l.map Value.string)[j]? =some u->(s.alloc (.cells #[.string x] 9)).cell? ((⟨a1,0,none⟩:Addr).add j)=some u):=λj u hu=>by
       have W:j<l.length:=by have:=(Mr.1 hu).1;simpa using this
       let⟨b,o,e,hb,S⟩:=(a6.o.kept D.o) j W;simp only[Na] at e;rw[e,Nf,S];simp[W] at hu;simp[List.getD,W,hu]
      have d9:Hid (∀u∈l.map Value.string,u.oneCell'=true):=λu hu=>by obtain⟨c7,_,rfl⟩:=MM.1 hu;rfl
      have J:=h.size;have e0:=Kz H.o.kb.size;go_wp2_with (at_builtin;refine wpList_append_own _ rfl (.tmp 43) (.tmp 44) 26 rfl s.heap.size 9 K _ 1 16 underlying26 M N O P rfl E8 (.b s.heap.size 1 1) 1 ([x].map Value.string) rfl E.o ⟨a1,0,none⟩ l.length oc (l.map Value.string) rfl E9 d8.o d9.o F5 E5 J ?_;intro v' n k t _;have Q:=Kz (H.o.front (aK D.o (Mj _) E.o t) (dN k e0.o) I);have R:=sQ k E5;clear k t)
      go_roundg (gk-1)
      case measure=>omega
      case rel=>exact⟨z+2,x :: l,F3,E5,E5,E5,by rw[Nc];omega,Q.o,by rw[Nc,Nat.add_comm];exact R⟩
   .have e3:l.length<=5:=E5;have f9:z<=p+7:=E5;go_wp2_with fail
    refine (aN _ rb a cap bs z _ 50 rfl f.o.rd E5 E5 U).mono ?_;rintro e w3 ⟨v,rfl,d7,a2,a3⟩;have y:=Kz (f.o.drawn a2 a3);by_cases h0:v=0
    .have e4:((v:Int) == 0)=true:=by simp[h0]
     let⟨p0,c8⟩:=y.o.rd0;have HE:=Kz (OSt.made c8 y.o.rd y.o.kb);go_wp2
     go_ret
     exact OSt.Kj HE.o ⟨_,_,rfl⟩ E9 E5 E5
    have e4:((v:Int) == 0)=false:=by simpa using h0
    clear h0;by_cases h1:v=1
    .have e1:((v:Int) == 1)=true:=by simp[h1]
     clear h1;have K3:K_ w3 (w3.alloc (.cells #[.string ⟨#[]⟩,.string ⟨#[45]⟩,.string ⟨#[103,111,110,101]⟩] 9)):=ah _ _;have r:=Kz (y.o.kept K3);go_wp2_with fail
     refine (aN _ rb a cap bs (z+1) _ 3 rfl r.o.rd E5 E5 U).mono ?_;rintro e n ⟨q,rfl,hq,c9,a7⟩;have H:=Kz (r.o.drawn c9 a7);let⟨c,S,e7⟩:=Af [⟨#[]⟩,⟨#[45]⟩,⟨#[103,111,110,101]⟩] a7 y.o.rd.row.lt q (by show q<3;omega) (by
      intro c S;simp only[Nh,Ni,or_false] at S;rcases S with rfl|rfl|rfl<;>decide)
     have lz:w3.heap.size<n.heap.size:=Mk E9 a7.size;have g0:(q:Int)<3:=E5;have h:K_ n (n.alloc (.cells #[.string c] 9)):=ah _ _;have D:=Kz h;have E:=Kz (H.o.kept h).own;have J:=(H.o.kept h).kb.size;let⟨K,M,N,O,P⟩:=aT Tryz.gJ;go_wp2_with (at_builtin;refine wpList_append_own _ rfl (.tmp 53) (.tmp 59) 26 rfl w.heap.size 9 K _ 1 16 underlying26 M N O P rfl E8 (.b a1 l.length oc) l.length (l.map Value.string) rfl E.o ⟨n.heap.size,0,none⟩ 1 1 [.string c] rfl rfl (lu n c) (kM c) F5 E5 J ?_;intro v' w8 k t _;have Q:=Kz (H.o.push D.o k t e7);have R:=sQ k E5;clear k t)
     go_ret
     exact OSt.Kj Q.o (by rw[M_];exact R) (by rw[M_];simp;omega) E5 E5
    have e1:((v:Int) == 1)=false:=F6;by_cases h2:v=2
    .have e2:((v:Int) == 2)=true:=by simp[h2]
     clear h2;go_wp2
     go_loopg [5,8] 11 (λg a0 x8 wr=>∃(i:Nat)(l:List NL),x8=.a (i:Int)/\i+g=11/\l.length<=11/\Hid (∀j,j<i->kU j∈l)/\OSt w wr rb a cap bs (z+1) a0 l/\y_ a0 l.length)
     case atStart=>exact⟨0,l,rfl,rfl,E5,Kz λj W=>E5,y.o,V.o⟩
     case round=>
      clear y V e3;obtain⟨i,m,rfl,hi,e8,HJ,F,G⟩:=hrel;have⟨f,V⟩:=aH F G;obtain⟨pb,pc,rfl⟩:=G;have g1:i<=m.length:=Dk E5 HJ.o;by_cases d0:(m.length:Int)<11
      .go_wp2_with fail
       refine (v_ _ i E5).mono ?_;rintro e w4 ⟨x,rfl,I,a4,k4⟩;have r:=Kz (f.o.kept k4);have HX:=Kz (a4 E5);have a6:Hid (Strs w4 (some ⟨pb,0,none⟩) m):=by
        let⟨sa,c,e,_,B⟩:=r.o.strs;simp only[Nb] at e;obtain⟨rfl,_,_⟩:=e;exact B.strs
       go_wp2_with fail
       refine (uE _ (some ⟨pb,0,none⟩) pc m x E5 a6.o).mono ?_;rintro e s ⟨b5,rfl⟩;rcases b5.cases with⟨rfl,X⟩|⟨rfl,X⟩
       .have e9:Hid (∀j,j<i+1->kU j∈m):=λj W=>by
         by_cases e:j=i
         .rw[e,<-HX.o];exact X
         .exact HJ.o j E5
        clear X;go_wp2
        go_roundg (gk-1)
        case measure=>omega
        case rel=>exact⟨i+1,m,F3,E5,e8,e9,r.o,V.o⟩
       .clear X;go_wp2_with fail
        refine (v_ _ i E5).mono ?_;rintro e n ⟨Y,rfl,g2,a4,k7⟩;have f0:=Kz (a4 E5);have b6:=Kz (r.o.kept k7);have h:K_ n (n.alloc (.cells #[.string Y] 9)):=ah _ _;have D:=Kz h;have E:=Kz (b6.o.kept h).own;have J:=(b6.o.kept h).kb.size;let⟨K,M,N,O,P⟩:=aT Tryz.gJ;go_wp2_with (at_builtin;refine wpList_append_own _ rfl (.tmp 73) (.tmp 76) 26 rfl w.heap.size 9 K _ 1 16 underlying26 M N O P rfl E8 (.b pb m.length pc) m.length (m.map Value.string) rfl E.o ⟨n.heap.size,0,none⟩ 1 1 [.string Y] rfl rfl (lu n Y) (kM Y) F5 E5 J ?_;intro v' w8 k t _;have Q:=Kz (b6.o.push D.o k t E5);have R:=sQ k E5;clear k t)
        go_roundg (gk-1)
        case measure=>omega
        case rel=>exact⟨i+1,m++[Y],F3,E5,by rw[M_];simp;omega,Kz (λj W=>by
         by_cases e:j=i
         .rw[e,<-f0.o];simp
         .exact List.mem_append_left _ (HJ.o j E5)),Q.o,by rw[M_];exact R⟩
      .have d1:m.length=11:=E5;have HL:=Kz d1;have g3:11<=pc:=by
        let⟨sa,c,e,S,B⟩:=f.o.strs;simp only[Nb] at e;obtain⟨_,_,rfl⟩:=e;omega
       have g4:¬(m.length:Int)<11:=d0;go_wp2_with fail
       refine (aN _ rb a cap bs (z+1) _ 2 rfl f.o.rd E5 E5 U).mono ?_;rintro e w8 ⟨q8,rfl,g5,d2,d3⟩;have a8:=Kz (f.o.drawn d2 d3);have g6:(10:Int)+(q8:Int)<=(pc:Int):=E5;go_wp2
       go_ret
       let⟨sa,c,e,S,B⟩:=a8.o.strs;simp only[Nb] at e;obtain⟨rfl,_,rfl⟩:=e;have f1:(m.take (10+q8)).length=10+q8:=by rw[ML,HL.o];omega
       exact⟨pb,pc,m.take (10+q8),z+2,by rw[f1];congr 2<;>omega,E5,E5,λc7 X=>a8.o.sz c7 (List.mem_of_mem_take X),B.take _,E5,E5,a8.o.rd,a8.o.kb⟩
    have e2:((v:Int) == 2)=false:=F6;go_wp2
    go_ret
    exact OSt.Kj y.o V.o E5 E5 E5
section
variable {M:Nat}{w wr:NN}{rb ob sb:Nat}{a:NM}{cap:Nat}{bs:List UInt8}{p:Nat}{cost:Int}{v:NP}{L:List Xq}{xs:List NP}{k:Nat}{va vc:NP}{s:Xq}
theorem eF.fin(h:eF M w wr rb ob sb a cap bs p cost v L xs k va vc s)(x:Bool):eF M w (wr.setCell ⟨sb,5,none⟩ (.bool x)) rb ob sb a cap bs p cost v L xs k va vc {s with fin:=x}:=h.field (h.st.box.fin x) rfl rfl ⟨h.st.tiny.asks,h.st.tiny.eQ,h.st.tiny.on,h.st.tiny.cases,h.st.tiny.dH,h.st.tiny.els,h.st.tiny.fall,h.st.tiny.give⟩
theorem eF.bad(h:eF M w wr rb ob sb a cap bs p cost v L xs k va vc s)(x:Bool):eF M w (wr.setCell ⟨sb,6,none⟩ (.bool x)) rb ob sb a cap bs p cost v L xs k va vc {s with bad:=x}:=h.field (h.st.box.bad x) rfl rfl ⟨h.st.tiny.asks,h.st.tiny.eQ,h.st.tiny.on,h.st.tiny.cases,h.st.tiny.dH,h.st.tiny.els,h.st.tiny.fall,h.st.tiny.give⟩
theorem eF.give(h:eF M w wr rb ob sb a cap bs p cost v L xs k va vc s)(x:NL)(c:x.size<=300):eF M w (wr.setCell ⟨sb,7,none⟩ (.string x)) rb ob sb a cap bs p cost v L xs k va vc {s with give:=x}:=h.field (h.st.box.give x) rfl rfl ⟨h.st.tiny.asks,h.st.tiny.eQ,h.st.tiny.on,h.st.tiny.cases,h.st.tiny.dH,h.st.tiny.els,h.st.tiny.fall,c⟩
theorem eF.on(h:eF M w wr rb ob sb a cap bs p cost v L xs k va vc s)(x:Int)(c: -1000<=x/\x<=1000):eF M w (wr.setCell ⟨sb,1,none⟩ (.a x)) rb ob sb a cap bs p cost v L xs k va vc {s with on:=x}:=h.field (h.st.box.on x) rfl rfl ⟨h.st.tiny.asks,h.st.tiny.eQ,c,h.st.tiny.cases,h.st.tiny.dH,h.st.tiny.els,h.st.tiny.fall,h.st.tiny.give⟩
theorem eF.els(h:eF M w wr rb ob sb a cap bs p cost v L xs k va vc s)(x:Int)(c:In64 x):eF M w (wr.setCell ⟨sb,3,none⟩ (.a x)) rb ob sb a cap bs p cost v L xs k va vc {s with els:=x}:=h.field (h.st.box.els x) rfl rfl ⟨h.st.tiny.asks,h.st.tiny.eQ,h.st.tiny.on,h.st.tiny.cases,h.st.tiny.dH,c,h.st.tiny.fall,h.st.tiny.give⟩
theorem eF.fall(h:eF M w wr rb ob sb a cap bs p cost v L xs k va vc s)(x:Int)(c: -1000<=x/\x<=1000):eF M w (wr.setCell ⟨sb,4,none⟩ (.a x)) rb ob sb a cap bs p cost v L xs k va vc {s with fall:=x}:=h.field (h.st.box.fall x) rfl rfl ⟨h.st.tiny.asks,h.st.tiny.eQ,h.st.tiny.on,h.st.tiny.cases,h.st.tiny.dH,h.st.tiny.els,c,h.st.tiny.give⟩
end
variable {L:List Xq}{bs:List UInt8}{xs:List NP}{cap rb:Nat}{a:NM}{wr:NN}
theorem eF.Ky{M:Nat}{w w1 w2:NN}{ob sb:Nat}{p:Nat}{cost:Int}{v:NP}{k:Nat}{va vc:NP}{s:Xq}(h:eF M w wr rb ob sb a cap bs p cost v L xs k va vc s)(d:K_ wr w1)(e:w1.grownBy w2 vc.ownBlock):w2.cell? ⟨ob,1,none⟩=some v:=by
 have b:=h.kept d;exact ((b.row.ji (aD.aI b.st.cases e) E8).2 1).trans b.c1
theorem eF.cut{M:Nat}{w:NN}{ob sb:Nat}{p:Nat}{cost:Int}{k g b:Nat}{va vc:NP}{s:Xq}(h:eF M w wr rb ob sb a cap bs p cost (.b g L.length b) L xs k va vc s):uL M w (wr.setCell ⟨ob,1,none⟩ (.b g k b)) rb ob a cap bs p cost (.b g k b) (L.take k):=by
 have x:=h.kl;have l:=h.row.same (o:=1) (.b g k b);have d:Below w.heap.size wr (wr.setCell ⟨ob,1,none⟩ (.b g k b)):=(Below.refl _ _).setCell h.obl _;let⟨y,m⟩:=h.st.rd0;have c:(L.take k).length=k:=H6;rcases h.own.2 with⟨e,_⟩|⟨z,A,n,e,B,q,C,_,D,_⟩
 .simp at e
 simp only[Nb,Na,NI,and_true,true_and] at e;obtain⟨rfl,rfl⟩:=e;refine⟨h.st.rd.below m d h.st.kb.size,h.st.kb.below d,h.row.set _,(Xk E5 _).trans h.c0,aR h.row.row E5 _,StW.same ⟨some ⟨g,0,none⟩,b,by rw[c],by rw[c];omega,λi f=>?_⟩ l E8 E8 E8,λt r=>h.tiny t (List.mem_of_mem_take r)⟩;rw[c] at f;have j:=(h.oth i E5 E5).1;have v:(L.take k).getD i Xq.zero=L.getD i Xq.zero:=by simp[List.getD,f]
 rw[v];exact⟨g,0,n,_,lI xs i,rfl,q,qG h.own i,j.step,j.oJ⟩
theorem jO.fin{M:Nat}{w:NN}{c:Nat}{p:Nat}{cost:Int}{v:NP}(h:jO M w wr rb c a cap bs p cost v L xs):uL M w wr rb c a cap bs p cost v L:=⟨h.rd,h.kb,h.row,h.c0,h.c1,StW.gK h.own h.pack h.oJ,h.tiny⟩
theorem eF.act{M:Nat}{w:NN}{ob sb:Nat}{p:Nat}{cost:Int}{v:NP}{k:Nat}{va vc:NP}{s:Xq}(h:eF M w wr rb ob sb a cap bs p cost v L xs k va vc s)(c:eH wr w.heap.size xs L):jO M w wr rb ob a cap bs p cost v L xs:=⟨h.st.rd,h.st.rd0,h.obl,h.st.kb,h.row,h.c0,h.c1,h.own,c.packed,h.tiny,c.oJ⟩
def Lm(M:Nat)(A0 wx:NN)(rb ob sb:Nat)(a:NM)(cap:Nat)(bs:List UInt8)(p:Nat)(v:NP)(L:List Xq)(xs:List NP)(k:Nat):Prop:=∃(cost:Int)(va vc:NP)(s:Xq)(p':Nat),(-1000<=cost/\cost<=1000)/\p<=p'/\p'<=p+4/\eF M A0 wx rb ob sb a cap bs p' cost v L xs k va vc s
theorem FB(mN:Nat)(o3:mN<=900)(w:NN)(rb:Nat)(a:NM)(cap:Nat)(bs:List UInt8)(p:Nat)(cost:Int)(sa:NM)(b5:Nat)(L:List Xq)(hR:Rd w rb a cap bs p)(hp:p<=800000)(M:bs.length<=2000)(hL:L.length<=21)(N: -1000<=cost/\cost<=1000)(f8:∀s∈L,s.TinyN mN)(hS:kL w sa L):Calls prog 37 #[.c rb,.agg #[.a cost,.slice sa L.length b5]] w λe w'=>KG (mN+10) w w' rb a cap bs p 10 e:=by
 let⟨I,b6⟩:=aj ((w.alloc (.cells #[.a cost,.slice sa L.length b5] 31)).alloc (.cells #[.a 0,M3] 31));have k0:K_ w I:=by rw[b6];exact (ah _ _).alloc _
 have i5:I.heap.size=w.heap.size+2:=by rw[b6];simp
 have d6:Hid (ay I (w.heap.size+1) 31 2):=by
  rw[b6];refine Kz ?_;have:=ay.made (w.alloc (.cells #[.a cost,.slice sa L.length b5] 31)) #[.a 0,M3] 31;simpa using this
 have o4:I.cell? ⟨w.heap.size,0,none⟩=some (.a cost):=by
  rw[b6,K_.cell (w:=w.alloc (.cells #[.a cost,.slice sa L.length b5] 31)) (ah _ _) E9];exact X_ w _ _ 0 _ rfl
 have a1:I.cell? ⟨w.heap.size,1,none⟩=some (.slice sa L.length b5):=by
  rw[b6,K_.cell (w:=w.alloc (.cells #[.a cost,.slice sa L.length b5] 31)) (ah _ _) E9];exact X_ w _ _ 1 _ rfl
 have az:w.heap.size<I.heap.size:=E5;have d7:=Kz hR;have d8:=Kz (hR.kept k0);have o5:=hR.row.lt;have i6:=Kz f8;have i7:Hid (∀s∈L,s.TinyN (mN+10)):=λs hs=>(f8 s hs).mono E5
 clear hR f8;go_enter func37,ntmps37
 go_upto_region 1 with fail
 rw[<-b6];have o6:=Kz i5;clear b6 i5;go_wp2_with fail
 refine (CW _ cost sa b5 L E5 (mN:=mN) E5 i6.o (hS.kept k0)).mono ?_;rintro e H ⟨v1,xs,rfl,f9,i8,Z⟩;obtain⟨av,B,rfl⟩:=aF f9;have kk:K_ H (H.alloc (.cells #[.a cost,.slice av L.length B] 31)):=ah _ _;have a0:=Kz (Z.trans kk);have b1:=Kz (au f9 kk);have d9:=Kz (i8.same (u:=125) (aD.ax kk) E8 E8);have c5:Hid (ay (H.alloc (.cells #[.a cost,.slice av L.length B] 31)) H.heap.size 31 2):=ay.made H _ _;have c7:Hid ((H.alloc (.cells #[.a cost,.slice av L.length B] 31)).cell? ⟨H.heap.size,0,none⟩=some (.a cost)):=X_ H _ _ 0 _ rfl;have b2:Hid ((H.alloc (.cells #[.a cost,.slice av L.length B] 31)).cell? ⟨H.heap.size,1,none⟩=some (.slice av L.length B)):=X_ H _ _ 1 _ rfl;have l8:=Z.size;clear f9 i8 Z kk;go_upto_region 2 with fail
 let⟨W2,i9⟩:=aj (H.alloc (.cells #[.a cost,.slice av L.length B] 31));rw[<-i9] at a0 b1 d9 c5 c7 b2⊢;clear i9;have o1:=b2.o;have oz:=c5.o.lt;by_cases e1:L.length=0
 .have l9:((L.length:Int) == 0)=true:=by simp[e1]
  have P:=Kz (uL.made (d8.o.kept a0.o) (.ax a0.o) c5.o c7.o b2.o b1.o d9.o i7.o);clear e1;have C:=Kz (d6.o.kept a0.o);let⟨⟨_,x0⟩,g0⟩:=C.o.row.at (i:=0) E5;let⟨⟨_,x1⟩,g1⟩:=C.o.row.at (i:=1) E5;have xz:=C.o.lt;have o0:=c7.o;go_wp2
  have hR:=Mo W2 (w.heap.size+1) 0 [.a cost,.slice av L.length B] (C.o.row.there (o:=0) (m:=2) (Mj _));exact Zx [.a cost,.slice av L.length B] _ results37 rfl hR underlying31 rfl Tryz.iN rfl (P.o.ends C.o E5 k0 d7.o rfl (Mj _) E5 E5 N)
 .have l9:((L.length:Int) == 0)=false:=by simpa using e1
  go_wp2_with fail
  refine (aN _ rb a cap bs p _ L.length rfl (d8.o.kept a0.o) E5 E5 M).mono ?_;rintro e V ⟨R,rfl,hk,j0,g3⟩;have g4:R<L.length:=E5;have e2:=g3.sameKind (d8.o.kept a0.o);have j1:=Kz j0;have m0:Hid (Xj rb (rb+1) I V):=(Xj.ax a0.o).trans g3;have e3:=c5.o.ji e2 E8;have g5:=Kz e3.1;have o0:=(e3.2 0).trans c7.o;have j2:=(e3.2 1).trans b2.o;have e4:=Kz (aV b1.o e2 E8);have e5:=Kz (d9.o.same e2 E8 E8);have m1:=g5.o.lt;let⟨s,c8⟩:=aj (L.getD R Xq.zero);have j3:=e5.o.each R g4;rw[<-c8] at j3;let⟨aa,ca,ac,cc,g6,g1,g2⟩:=j3;rcases e4.o.2 with⟨_,e0⟩|⟨g,c9,m2,ev,o7,g7,j4,_,c3,_⟩
  .exact NB e0 e1
  simp only[Nb,true_and] at ev;obtain⟨rfl,rfl⟩:=ev;have a8:=qG e4.o R;rw[g6] at a8;have c0:=a8 0 _ rfl;have c1:=a8 1 _ rfl;have j5:=a8 2 _ rfl;have j6:=a8 3 _ rfl;have j7:=a8 4 _ rfl;have j8:=a8 5 _ rfl;have c6:=a8 6 _ rfl;have j9:=a8 7 _ rfl;rw[Ng] at c0;simp only[MR] at c0 c1 j5 j6 j7 j8 c6 j9;have gz:=aM g7;have e6:=Kz (eF.made j1.o d8.o m0.o l8 g5.o o0 j2 e4.o e5.o g4 i7.o c8 g6);have m3:Hid (ay V g 128 (B*8)):=⟨m2,g7,c3⟩;have o8:L.length<=B:=j4;have o9:(R:Int)<(L.length:Int):=E5;have g8:s.TinyN mN:=i6.o s (by rw[c8];simp[List.getD,g4]);have p0:=g8.asks;have p1:=g8.cases;clear g8;have p2:=Kz c8;clear a8 g7 c3 g1 g2 g6 j4 j0 g3 e2 e3 c8;go_wp2_with fail
  refine (aN _ rb a cap bs (p+1) _ 14 rfl e6.o.st.rd E5 E5 M).mono ?_;rintro e T ⟨u,rfl,y,k1,g9⟩;have n:=Kz (e6.o.drawn k1 g9);have k2:=g9.sameKind e6.o.st.rd;have d0:K_ V (V.alloc (.cells #[.slice aa s.asks.length ca,.a s.on,.slice ac s.cases.length cc,.a s.els,.a s.fall,.bool s.fin,.bool s.bad,.string s.give] 128)):=ah _ _;have k3:=Kz ((e5.o.same (u:=125) (aD.ax d0) E8 E8).same k2 E8 E8);have e7:=n.o.st.box.row.lt;clear k1 g9 e6 e5 d9 c0 c1 j5 j6 j7 j8 c6 j9 m3 g5 e4 o0 j2 o1 c7 b2 c5 b1 d0 k2 j1 gz m1 oz
  go_upto_block 0 with fail
  go_cut [8,9,10] from 31 to 198 (λ_ _ _ wx=>Lm (mN+10) I wx rb H.heap.size V.heap.size a cap bs (p+2) (.b g L.length B) L xs R)
  case first=>
   have b7:u=0\/u=1\/u=2\/u=3\/u=4\/u=5\/u=6\/u=7\/u=8\/u=9\/u=10\/u=11\/u=12\/u=13:=E5;have y5:=n.o.st.box.c5;have y6:=n.o.st.box.c6;have y3:=n.o.st.box.c3;let⟨_,f5⟩:=n.o.st.box.cell (o:=5) E5;let⟨_,f6⟩:=n.o.st.box.cell (o:=6) E5;let⟨_,h0⟩:=n.o.st.box.cell (o:=3) E5;let⟨_,h1⟩:=n.o.st.box.cell (o:=7) E5;clear y;obtain rfl|rfl|rfl|rfl|rfl|rfl|rfl|rfl|rfl|rfl|rfl|rfl|rfl|rfl:=b7
   .have d0:K_ T (T.alloc (.cells #[.a 0,.a 20,.a 21] 3)):=ah _ _;have r:=Kz (n.o.kept d0);go_wp2_with fail
    refine (aN _ rb a cap bs (p+2) _ 3 rfl r.o.st.rd E5 E5 M).mono ?_;rintro e l ⟨q,rfl,hq,k,i⟩;have j:=Kz (r.o.drawn k i);let⟨c,x,z,A⟩:=vH [0,20,21] i n.o.st.rd.row.lt q (by show q<3;omega) E8;let⟨⟨_,r0⟩,f0⟩:=j.o.row.row.at (i:=0) E5;have rz:=j.o.row.lt;have lz:T.heap.size<l.heap.size:=Mk E9 i.size;have p3:(q:Int)<3:=E5;clear k i r d0;go_wp2
    go_meet
    exact⟨c,_,_,_,p+3,⟨z,A⟩,E5,E5,j.o.cost⟩
   .go_wp2
    go_meet
    exact⟨cost,_,_,_,p+2,N,E5,E5,n.o.fin _⟩
   .go_wp2
    go_meet
    exact⟨cost,_,_,_,p+2,N,E5,E5,n.o.bad _⟩
   .go_wp2_with fail
    refine (aN _ rb a cap bs (p+2) _ 2 rfl n.o.st.rd E5 E5 M).mono ?_;rintro e l ⟨q,rfl,hq,k,i⟩;have j:=Kz (n.o.drawn k i);let⟨⟨_,r7⟩,p4⟩:=j.o.st.box.cell (o:=7) E5;have rz:=j.o.st.box.row.lt;clear k i;go_wp2_with fail
    refine (vG _ ⟨#[103]⟩ _ (30+q) (by push_cast;rfl) E5 E8).mono ?_;rintro e w6 ⟨⟨G,rfl,t⟩,rfl⟩;have d1:G.size<=300:=by have d2:(⟨#[103]⟩:NL).size=1:=rfl;rw[d2] at t;omega
    go_wp2
    go_meet
    exact⟨cost,_,_,_,p+3,N,E5,E5,j.o.give _ d1⟩
   .have r:=Kz (n.o.kept (aY T));have Q:=r.o.st.box.c0;go_upto_region 17 with fail
    refine Qk.region F4 (λw'=>w'.cell? ⟨V.heap.size,0,none⟩=some (.slice aa s.asks.length ca)) 14 Q λd=>?_;generalize a3:T.drew=W at r d⊢;clear a3 Q;refine ae 0 d ?_;refine ae 1 d ?_;refine ae 2 d ?_;refine ae 7 d ?_;refine aG 3 λK b=>?_;go_simp
    go_at_call 35
    refine (aN _ rb a cap bs (p+2) _ 2 rfl r.o.st.rd E5 E5 M).mono ?_;rintro e l ⟨q,rfl,hq,k,i⟩;have j:=Kz (r.o.drawn k i);clear k i;dsimp only;refine af b (λ_=>j.o.st.box.c0) ?_;clear b K;clear d r;have d:=j.o.st.box.c0;have m4:IntKind.i64.wrap (20+(q:Int))=20+(q:Int):=G6;refine cK 4 (.a (20+(q:Int))) d ?_ ?_
    .intro u y;try dsimp only at y
     go_simp
     try with_reducible rfl
    try simp only[upP]
    refine aG 5 λK b=>?_;go_simp
    go_at_call 82
    refine (vG _ ⟨#[110]⟩ _ (20+q) (by push_cast;rfl) E5 E8).mono ?_;rintro e w6 ⟨⟨G,rfl,t⟩,h2⟩;have d1:G.size<=300:=by have d2:(⟨#[110]⟩:NL).size=1:=rfl;rw[d2] at t;omega
    subst h2;dsimp only;refine af b (λ_=>j.o.st.box.c0) ?_;clear b K;have k4:∀c∈([⟨#[]⟩,⟨#[45]⟩,⟨#[97,44,98]⟩,⟨#[120,32,121]⟩,G,⟨#[97]⟩]:List NL),c.size<=300:=by
     intro c x;simp only[Nh,Ni,or_false] at x;rcases x with rfl|rfl|rfl|rfl|rfl|rfl<;>first|exact d1|decide
    refine fP 6 8 (λK b=>?_) (λK b=>?_)
    .rw[Nz F7];go_simp
     have D:K_ w6 (w6.alloc (.cells #[.string ⟨#[]⟩,.string ⟨#[45]⟩,.string ⟨#[97,44,98]⟩,.string ⟨#[120,32,121]⟩,.string G,.string ⟨#[97]⟩] 9)):=ah _ _;have f:=Kz (j.o.kept D);refine af b (λ_=>f.o.st.box.c0) ?_;clear b K;clear d D;refine aG 8 λK b=>?_;go_simp
     go_at_call 35
     refine (aN _ rb a cap bs (p+3) _ 6 rfl f.o.st.rd E5 E5 M).mono ?_;rintro e wE ⟨O,rfl,k5,k,i⟩;have J:=Kz (f.o.drawn k i);let⟨c,x,c3⟩:=Af [⟨#[]⟩,⟨#[45]⟩,⟨#[97,44,98]⟩,⟨#[120,32,121]⟩,G,⟨#[97]⟩] i j.o.st.rd.row.lt O (by show O<6;omega) k4;have lz:w6.heap.size<wE.heap.size:=Nat.lt_of_lt_of_le E9 i.size;clear k i;dsimp only;refine af b (λ_=>J.o.st.box.c0) ?_;clear b K;have b8:(O:Int)<6:=E5;refine ai 9 λK b=>?_;go_simp
     refine af b (λ_=>J.o.st.box.c0) ?_;clear b K;refine ai 10 λK b=>?_;go_simp
     refine af b (λ_=>J.o.st.box.c0) ?_;clear b K;refine ai 11 λK b=>?_;go_simp
     have U:K_ wE (wE.alloc (.cells #[.string c] 9)):=ah _ _;have a9:=Kz (J.o.kept U);have a2:=Kz U;refine af b (λ_=>a9.o.st.box.c0) ?_;clear b K;clear U;let⟨ic,a4,z,A,a5⟩:=aT Tryz.gJ;refine ai 12 λK b=>?_;refine step_append_lies _ rfl (.tmp 65) (.tmp 75) 26 rfl I.heap.size 9 ic _ 1 16 underlying26 a4 z A a5 rfl E8 (.slice aa s.asks.length ca) s.asks.length (s.asks.map Value.string) F9 a9.o.st.asks ⟨wE.heap.size,0,none⟩ 1 1 [.string c] F9 rfl (lu wE c) (kM c) E5 F5 E5 a9.o.st.kb.size _ rfl ?_;intro g2 e8 w8 a6 S X b0;have E:=Kz (J.o.st.uG a2.o S);have h3:=Kz (J.o.qj (x:=c) a2.o a6 S (wH X) E5 c3);have z6:=E.o.row.lt;have y6:=E.o.c0;let⟨_,f6⟩:=E.o.cell (o:=0) E5;clear a6 S X b0;refine af b (λ_=>E.o.c0) ?_;clear b K;have d:=E.o.c0;refine ae 13 d ?_;refine ai 14 λK b=>?_;go_simp
     refine af b (λh=>NB rfl h) ?_;clear b K;refine aC ?_;go_wp2
     go_meet
     exact⟨cost,_,_,_,p+4,N,E5,E5,h3.o⟩
    .rw[Nz F7];go_simp
     go_at_call 35
     refine (aN _ rb a cap bs (p+3) _ 6 rfl j.o.st.rd E5 E5 M).mono ?_;rintro e w7 ⟨O,rfl,k5,k,i⟩;have f:=Kz (j.o.drawn k i);clear k i;dsimp only;refine af b (λ_=>f.o.st.box.c0) ?_;clear b K;clear d;refine aG 6 λK b=>?_;go_simp
     have D:K_ w7 (w7.alloc (.cells #[.string ⟨#[]⟩,.string ⟨#[45]⟩,.string ⟨#[97,44,98]⟩,.string ⟨#[120,32,121]⟩,.string G,.string ⟨#[97]⟩] 9)):=ah _ _;have J:=Kz (f.o.kept D);let⟨c,x,c3⟩:=BU w7 9 [⟨#[]⟩,⟨#[45]⟩,⟨#[97,44,98]⟩,⟨#[120,32,121]⟩,G,⟨#[97]⟩] O (by show O<6;omega) k4;clear D;have b9:(w7.alloc (.cells #[.string ⟨#[]⟩,.string ⟨#[45]⟩,.string ⟨#[97,44,98]⟩,.string ⟨#[120,32,121]⟩,.string G,.string ⟨#[97]⟩] 9)).cell? ⟨w7.heap.size,O,none⟩=some (.string c):=x;have lz:w7.heap.size<(w7.alloc (.cells #[.string ⟨#[]⟩,.string ⟨#[45]⟩,.string ⟨#[97,44,98]⟩,.string ⟨#[120,32,121]⟩,.string G,.string ⟨#[97]⟩] 9)).heap.size:=E9;clear x;refine af b (λ_=>J.o.st.box.c0) ?_;clear b K;generalize c2:w7.alloc (.cells #[.string ⟨#[]⟩,.string ⟨#[45]⟩,.string ⟨#[97,44,98]⟩,.string ⟨#[120,32,121]⟩,.string G,.string ⟨#[97]⟩] 9)=wE at J b9 lz⊢;clear c2;have b8:(O:Int)<6:=E5;refine ai 9 λK b=>?_;go_simp
     refine af b (λ_=>J.o.st.box.c0) ?_;clear b K;refine ai 10 λK b=>?_;go_simp
     refine af b (λ_=>J.o.st.box.c0) ?_;clear b K;refine ai 11 λK b=>?_;go_simp
     have U:K_ wE (wE.alloc (.cells #[.string c] 9)):=ah _ _;have a9:=Kz (J.o.kept U);have a2:=Kz U;refine af b (λ_=>a9.o.st.box.c0) ?_;clear b K;clear U;let⟨ic,a4,z,A,a5⟩:=aT Tryz.gJ;refine ai 12 λK b=>?_;refine step_append_lies _ rfl (.tmp 65) (.tmp 75) 26 rfl I.heap.size 9 ic _ 1 16 underlying26 a4 z A a5 rfl E8 (.slice aa s.asks.length ca) s.asks.length (s.asks.map Value.string) F9 a9.o.st.asks ⟨wE.heap.size,0,none⟩ 1 1 [.string c] F9 rfl (lu wE c) (kM c) E5 F5 E5 a9.o.st.kb.size _ rfl ?_;intro g2 e8 w8 a6 S X b0;have E:=Kz (J.o.st.uG a2.o S);have h3:=Kz (J.o.qj (x:=c) a2.o a6 S (wH X) E5 c3);have z6:=E.o.row.lt;have y6:=E.o.c0;let⟨_,f6⟩:=E.o.cell (o:=0) E5;clear a6 S X b0;refine af b (λ_=>E.o.c0) ?_;clear b K;have d:=E.o.c0;refine ae 13 d ?_;refine ai 14 λK b=>?_;go_simp
     refine af b (λh=>NB rfl h) ?_;clear b K;refine aC ?_;go_wp2
     go_meet
     exact⟨cost,_,_,_,p+4,N,E5,E5,h3.o⟩
   .have r:=Kz (n.o.kept (aY T));have Q:=r.o.st.box.c0;have p5:s.asks.length<=900:=E5;go_upto_region 19 with fail
    refine Qk.region F4 (λw'=>w'.cell? ⟨V.heap.size,0,none⟩=some (.slice aa s.asks.length ca)) 9 Q λd=>?_;generalize a3:T.drew=W at r d⊢;clear a3 Q;refine ae 0 d ?_;refine ae 1 d ?_;refine ae 2 d ?_;refine ae 4 d ?_;refine fP 3 5 (λK b=>?_) (λK b=>?_)
    .rw[Nz F7];go_simp
     have D:K_ W (W.alloc (.cells #[.a (-1),.a (s.asks.length:Int),.a 0,.a 1] 3)):=ah _ _;have j:=Kz (r.o.kept D);refine af b (λ_=>j.o.st.box.c0) ?_;clear b K;clear d D;refine aG 5 λK b=>?_;go_simp
     go_at_call 35
     refine (aN _ rb a cap bs (p+2) _ 4 rfl j.o.st.rd E5 E5 M).mono ?_;rintro e l ⟨q,rfl,hq,k,i⟩;have f:=Kz (j.o.drawn k i);let⟨c,x,z,A⟩:=vH [-1,(s.asks.length:Int),0,1] i r.o.st.rd.row.lt q (by show q<4;omega) (λc x=>by simp at x;omega);have lz:W.heap.size<l.heap.size:=Nat.lt_of_lt_of_le E9 i.size;clear k i;dsimp only;refine af b (λ_=>f.o.st.box.c0) ?_;clear b K;have b8:(q:Int)<4:=E5;refine ai 6 λK b=>?_;go_simp
     refine af b (λ_=>f.o.st.box.c0) ?_;clear b K;refine ai 7 λK b=>?_;go_simp
     refine af b (λ_=>f.o.st.box.c0) ?_;clear b K;have d:=f.o.st.box.c0;refine ae 8 d ?_;let⟨_,d3⟩:=f.o.st.box.cell (o:=1) E5;let⟨⟨_,r1⟩,_⟩:=f.o.st.box.cell (o:=1) E5;have rz:=f.o.st.box.row.lt;refine ai 9 λK b=>?_;go_simp
     refine af b (λh=>NB rfl h) ?_;clear b K;refine aC ?_;go_wp2
     go_meet
     exact⟨cost,_,_,_,p+3,N,E5,E5,f.o.on c ⟨z,A⟩⟩
    .rw[Nz F7];go_simp
     go_at_call 35
     refine (aN _ rb a cap bs (p+2) _ 4 rfl r.o.st.rd E5 E5 M).mono ?_;rintro e l ⟨q,rfl,hq,k,i⟩;have j:=Kz (r.o.drawn k i);clear k i;dsimp only;refine af b (λ_=>j.o.st.box.c0) ?_;clear b K;clear d;refine aG 3 λK b=>?_;go_simp
     have D:K_ l (l.alloc (.cells #[.a (-1),.a (s.asks.length:Int),.a 0,.a 1] 3)):=ah _ _;have f:=Kz (j.o.kept D);let⟨c,x,z,A⟩:=xB l 3 [-1,(s.asks.length:Int),0,1] q (by show q<4;omega) (λc x=>by simp at x;omega);clear D;have b9:(l.alloc (.cells #[.a (-1),.a (s.asks.length:Int),.a 0,.a 1] 3)).cell? ⟨l.heap.size,q,none⟩=some (.a c):=x;have lz:l.heap.size<(l.alloc (.cells #[.a (-1),.a (s.asks.length:Int),.a 0,.a 1] 3)).heap.size:=E9;clear x;refine af b (λ_=>f.o.st.box.c0) ?_;clear b K;generalize c2:l.alloc (.cells #[.a (-1),.a (s.asks.length:Int),.a 0,.a 1] 3)=wE at f b9 lz⊢;clear c2;have b8:(q:Int)<4:=E5;refine ai 6 λK b=>?_;go_simp
     refine af b (λ_=>f.o.st.box.c0) ?_;clear b K;refine ai 7 λK b=>?_;go_simp
     refine af b (λ_=>f.o.st.box.c0) ?_;clear b K;have d:=f.o.st.box.c0;refine ae 8 d ?_;let⟨_,d3⟩:=f.o.st.box.cell (o:=1) E5;let⟨⟨_,r1⟩,_⟩:=f.o.st.box.cell (o:=1) E5;have rz:=f.o.st.box.row.lt;refine ai 9 λK b=>?_;go_simp
     refine af b (λh=>NB rfl h) ?_;clear b K;refine aC ?_;go_wp2
     go_meet
     exact⟨cost,_,_,_,p+3,N,E5,E5,f.o.on c ⟨z,A⟩⟩
   .have r:=Kz (n.o.kept (aY T));have Q:=r.o.c1;have m5:IntKind.i64.wrap ((L.length:Int)-1)= (L.length:Int)-1:=G6;go_upto_region 21 with fail
    refine Qk.region F4 (λw'=>w'.cell? ⟨H.heap.size,1,none⟩=some (.b g L.length B)) 13 Q λd=>?_;generalize a3:T.drew=W at r d⊢;clear a3 Q;refine ak 0 d ?_;refine ae 4 d ?_;refine ae 5 d ?_;refine cK 6 (.a ((L.length:Int)-1)) d ?_ ?_
    .intro u y;try dsimp only at y
     go_simp
     try with_reducible rfl
    try simp only[upP]
    refine ae 8 d ?_;refine fP 7 9 (λK b=>?_) (λK b=>?_)
    .rw[Nz F7];go_simp
     have D:K_ W (W.alloc (.cells #[.a (-1),.a (L.length:Int),.a ((L.length:Int)-1)] 3)):=ah _ _;have j:=Kz (r.o.kept D);refine af b (λ_=>j.o.c1) ?_;clear b K;clear d D;refine aG 9 λK b=>?_;go_simp
     go_at_call 35
     refine (aN _ rb a cap bs (p+2) _ 3 rfl j.o.st.rd E5 E5 M).mono ?_;rintro e l ⟨q,rfl,hq,k,i⟩;have f:=Kz (j.o.drawn k i);let⟨c,x,z,A⟩:=vH [-1,(L.length:Int),(L.length:Int)-1] i r.o.st.rd.row.lt q (by show q<3;omega) (λc x=>by simp at x;omega);have lz:W.heap.size<l.heap.size:=Nat.lt_of_lt_of_le E9 i.size;clear k i;dsimp only;refine af b (λ_=>f.o.c1) ?_;clear b K;have b8:(q:Int)<3:=E5;refine ai 10 λK b=>?_;go_simp
     refine af b (λ_=>f.o.c1) ?_;clear b K;refine ai 11 λK b=>?_;go_simp
     refine af b (λ_=>f.o.c1) ?_;clear b K;have d:=f.o.c1;refine ae 12 d ?_;let⟨_,d3⟩:=f.o.st.box.cell (o:=3) E5;let⟨⟨_,r1⟩,_⟩:=f.o.st.box.cell (o:=3) E5;have rz:=f.o.st.box.row.lt;refine ai 13 λK b=>?_;go_simp
     refine af b (λh=>NB rfl h) ?_;clear b K;refine aC ?_;go_wp2
     go_meet
     exact⟨cost,_,_,_,p+3,N,E5,E5,f.o.els c (nV ⟨z,A⟩)⟩
    .rw[Nz F7];go_simp
     go_at_call 35
     refine (aN _ rb a cap bs (p+2) _ 3 rfl r.o.st.rd E5 E5 M).mono ?_;rintro e l ⟨q,rfl,hq,k,i⟩;have j:=Kz (r.o.drawn k i);clear k i;dsimp only;refine af b (λ_=>j.o.c1) ?_;clear b K;clear d;refine aG 7 λK b=>?_;go_simp
     have D:K_ l (l.alloc (.cells #[.a (-1),.a (L.length:Int),.a ((L.length:Int)-1)] 3)):=ah _ _;have f:=Kz (j.o.kept D);let⟨c,x,z,A⟩:=xB l 3 [-1,(L.length:Int),(L.length:Int)-1] q (by show q<3;omega) (λc x=>by simp at x;omega);clear D;have b9:(l.alloc (.cells #[.a (-1),.a (L.length:Int),.a ((L.length:Int)-1)] 3)).cell? ⟨l.heap.size,q,none⟩=some (.a c):=x;have lz:l.heap.size<(l.alloc (.cells #[.a (-1),.a (L.length:Int),.a ((L.length:Int)-1)] 3)).heap.size:=E9;clear x;refine af b (λ_=>f.o.c1) ?_;clear b K;generalize c2:l.alloc (.cells #[.a (-1),.a (L.length:Int),.a ((L.length:Int)-1)] 3)=wE at f b9 lz⊢;clear c2;have b8:(q:Int)<3:=E5;refine ai 10 λK b=>?_;go_simp
     refine af b (λ_=>f.o.c1) ?_;clear b K;refine ai 11 λK b=>?_;go_simp
     refine af b (λ_=>f.o.c1) ?_;clear b K;have d:=f.o.c1;refine ae 12 d ?_;let⟨_,d3⟩:=f.o.st.box.cell (o:=3) E5;let⟨⟨_,r1⟩,_⟩:=f.o.st.box.cell (o:=3) E5;have rz:=f.o.st.box.row.lt;refine ai 13 λK b=>?_;go_simp
     refine af b (λh=>NB rfl h) ?_;clear b K;refine aC ?_;go_wp2
     go_meet
     exact⟨cost,_,_,_,p+3,N,E5,E5,f.o.els c (nV ⟨z,A⟩)⟩
   .have r:=Kz (n.o.kept (aY T));have Q:=r.o.c1;have m5:IntKind.i64.wrap ((L.length:Int)-1)= (L.length:Int)-1:=G6;go_upto_region 23 with fail
    refine Qk.region F4 (λw'=>w'.cell? ⟨H.heap.size,1,none⟩=some (.b g L.length B)) 13 Q λd=>?_;generalize a3:T.drew=W at r d⊢;clear a3 Q;refine ak 0 d ?_;refine ae 4 d ?_;refine ae 5 d ?_;refine cK 6 (.a ((L.length:Int)-1)) d ?_ ?_
    .intro u y;try dsimp only at y
     go_simp
     try with_reducible rfl
    try simp only[upP]
    refine ae 8 d ?_;refine fP 7 9 (λK b=>?_) (λK b=>?_)
    .rw[Nz F7];go_simp
     have D:K_ W (W.alloc (.cells #[.a (-2),.a (-1),.a (L.length:Int),.a ((L.length:Int)-1)] 3)):=ah _ _;have j:=Kz (r.o.kept D);refine af b (λ_=>j.o.c1) ?_;clear b K;clear d D;refine aG 9 λK b=>?_;go_simp
     go_at_call 35
     refine (aN _ rb a cap bs (p+2) _ 4 rfl j.o.st.rd E5 E5 M).mono ?_;rintro e l ⟨q,rfl,hq,k,i⟩;have f:=Kz (j.o.drawn k i);let⟨c,x,z,A⟩:=vH [-2, -1,(L.length:Int),(L.length:Int)-1] i r.o.st.rd.row.lt q (by show q<4;omega) (λc x=>by simp at x;omega);have lz:W.heap.size<l.heap.size:=Nat.lt_of_lt_of_le E9 i.size;clear k i;dsimp only;refine af b (λ_=>f.o.c1) ?_;clear b K;have b8:(q:Int)<4:=E5;refine ai 10 λK b=>?_;go_simp
     refine af b (λ_=>f.o.c1) ?_;clear b K;refine ai 11 λK b=>?_;go_simp
     refine af b (λ_=>f.o.c1) ?_;clear b K;have d:=f.o.c1;refine ae 12 d ?_;let⟨_,d3⟩:=f.o.st.box.cell (o:=4) E5;let⟨⟨_,r1⟩,_⟩:=f.o.st.box.cell (o:=4) E5;have rz:=f.o.st.box.row.lt;refine ai 13 λK b=>?_;go_simp
     refine af b (λh=>NB rfl h) ?_;clear b K;refine aC ?_;go_wp2
     go_meet
     exact⟨cost,_,_,_,p+3,N,E5,E5,f.o.fall c ⟨z,A⟩⟩
    .rw[Nz F7];go_simp
     go_at_call 35
     refine (aN _ rb a cap bs (p+2) _ 4 rfl r.o.st.rd E5 E5 M).mono ?_;rintro e l ⟨q,rfl,hq,k,i⟩;have j:=Kz (r.o.drawn k i);clear k i;dsimp only;refine af b (λ_=>j.o.c1) ?_;clear b K;clear d;refine aG 7 λK b=>?_;go_simp
     have D:K_ l (l.alloc (.cells #[.a (-2),.a (-1),.a (L.length:Int),.a ((L.length:Int)-1)] 3)):=ah _ _;have f:=Kz (j.o.kept D);let⟨c,x,z,A⟩:=xB l 3 [-2, -1,(L.length:Int),(L.length:Int)-1] q (by show q<4;omega) (λc x=>by simp at x;omega);clear D;have b9:(l.alloc (.cells #[.a (-2),.a (-1),.a (L.length:Int),.a ((L.length:Int)-1)] 3)).cell? ⟨l.heap.size,q,none⟩=some (.a c):=x;have lz:l.heap.size<(l.alloc (.cells #[.a (-2),.a (-1),.a (L.length:Int),.a ((L.length:Int)-1)] 3)).heap.size:=E9;clear x;refine af b (λ_=>f.o.c1) ?_;clear b K;generalize c2:l.alloc (.cells #[.a (-2),.a (-1),.a (L.length:Int),.a ((L.length:Int)-1)] 3)=wE at f b9 lz⊢;clear c2;have b8:(q:Int)<4:=E5;refine ai 10 λK b=>?_;go_simp
     refine af b (λ_=>f.o.c1) ?_;clear b K;refine ai 11 λK b=>?_;go_simp
     refine af b (λ_=>f.o.c1) ?_;clear b K;have d:=f.o.c1;refine ae 12 d ?_;let⟨_,d3⟩:=f.o.st.box.cell (o:=4) E5;let⟨⟨_,r1⟩,_⟩:=f.o.st.box.cell (o:=4) E5;have rz:=f.o.st.box.row.lt;refine ai 13 λK b=>?_;go_simp
     refine af b (λh=>NB rfl h) ?_;clear b K;refine aC ?_;go_wp2
     go_meet
     exact⟨cost,_,_,_,p+3,N,E5,E5,f.o.fall c ⟨z,A⟩⟩
   .have r:=Kz (n.o.kept (aY T));have Q:=r.o.st.box.c2;have y1:=r.o.c1;have p6:IntKind.i64.wrap ((L.length:Int)+2)= (L.length:Int)+2:=G6;go_upto_region 25 with fail
    refine Qk.region F4 (λw'=>w'.cell? ⟨V.heap.size,2,none⟩=some (.slice ac s.cases.length cc)/\w'.cell? ⟨H.heap.size,1,none⟩=some (.b g L.length B)) 17 ⟨Q,y1⟩ λd=>?_;generalize a3:T.drew=W at r d⊢;clear a3 Q y1;refine ae 0 d ?_;refine ae 1 d ?_;refine ae 2 d ?_;refine ak 6 d ?_;refine cK 10 (.a ((L.length:Int)+2)) d ?_ ?_
    .intro u y;try dsimp only at y
     go_simp
     try with_reducible rfl
    try simp only[upP]
    refine aG 3 λK b=>?_;go_simp
    go_at_call 35
    refine (aN _ rb a cap bs (p+2) _ 2 rfl r.o.st.rd E5 E5 M).mono ?_;rintro e l ⟨q,rfl,hq,k,i⟩;have j:=Kz (r.o.drawn k i);clear k i;dsimp only;refine af b (λ_=>⟨j.o.st.box.c2,j.o.c1⟩) ?_;clear b K;clear d r;have d:=(show _/\_ from ⟨j.o.st.box.c2,j.o.c1⟩);have m4:IntKind.i64.wrap (200+(q:Int))=200+(q:Int):=G6;refine cK 4 (.a (200+(q:Int))) d ?_ ?_
    .intro u y;try dsimp only at y
     go_simp
     try with_reducible rfl
    try simp only[upP]
    refine aG 5 λK b=>?_;go_simp
    go_at_call 82
    refine (vG _ ⟨#[116]⟩ _ (200+q) (by push_cast;rfl) E5 E8).mono ?_;rintro e w6 ⟨⟨G,rfl,t⟩,h2⟩;have d1:G.size<=300:=by have d2:(⟨#[116]⟩:NL).size=1:=rfl;rw[d2] at t;omega
    subst h2;dsimp only;refine af b (λ_=>⟨j.o.st.box.c2,j.o.c1⟩) ?_;clear b K;refine aG 11 λK b=>?_;go_simp
    go_at_call 35
    refine (aN _ rb a cap bs (p+3) _ (L.length+2) (by push_cast;rfl) j.o.st.rd E5 E5 M).mono ?_;rintro e w7 ⟨O,rfl,k5,k6,k7⟩;have f:=Kz (j.o.drawn k6 k7);clear k6 k7;dsimp only;refine af b (λ_=>⟨f.o.st.box.c2,f.o.c1⟩) ?_;clear b K;clear d;have d:=(show _/\_ from ⟨f.o.st.box.c2,f.o.c1⟩);have p7:IntKind.i64.wrap ((O:Int)-1)= (O:Int)-1:=G6;refine cK 12 (.a ((O:Int)-1)) d ?_ ?_
    .intro u y;try dsimp only at y
     go_simp
     try with_reducible rfl
    try simp only[upP]
    refine ae 13 d ?_;refine ai 14 λK b=>?_;go_simp
    have U:K_ w7 (w7.alloc (.cells #[.string G,.a ((O:Int)-1)] 131)):=ah _ _;have J:=Kz (f.o.kept U);have a2:=Kz U;refine af b (λ_=>⟨J.o.st.box.c2,J.o.c1⟩) ?_;clear b K;clear d U;let⟨ic,a4,z,A,a5⟩:=aT Tryz.qH;refine ai 15 λK b=>?_;refine step_append_lies _ rfl (.tmp 122) (.tmp 135) 126 rfl I.heap.size 131 ic _ 2 24 underlying126 a4 z A a5 rfl E8 (.slice ac s.cases.length cc) s.cases.length (bi s.cases) F9 J.o.st.cases ⟨w7.heap.size,0,none⟩ 1 1 [.string G,.a ((O:Int)-1)] F9 rfl (λY u y=>by rw[Nf];exact X_ w7 #[.string G,.a ((O:Int)-1)] 131 Y u (by simpa using y)) (λu y=>by simp at y;rcases y with rfl|rfl<;>rfl) E5 F5 E5 J.o.st.kb.size _ rfl ?_;intro g2 e8 w8 a6 S X b0;have E:=Kz (f.o.st.Bo a2.o S);have a9:=Kz (f.o.tK (x:=⟨G,(O:Int)-1⟩) a2.o a6 S (wH X) E5 ⟨d1,by show -1000<=(O:Int)-1;omega,by show (O:Int)-1<=1000;omega⟩);have b2:=Kz (f.o.Ky a2.o S);have z6:=E.o.row.lt;have y6:=E.o.c2;let⟨_,f6⟩:=E.o.cell (o:=2) E5;clear a6 S X b0;refine af b (λ_=>⟨E.o.c2,b2.o⟩) ?_;clear b K;have d:=(show _/\_ from ⟨E.o.c2,b2.o⟩);refine ae 16 d ?_;refine ai 17 λK b=>?_;go_simp
    refine af b (λh=>NB rfl h) ?_;clear b K;refine aC ?_;go_wp2
    go_meet
    exact⟨cost,_,_,_,p+4,N,E5,E5,a9.o⟩
   .go_wp2_with fail
    refine (aN _ rb a cap bs (p+2) _ 2 rfl n.o.st.rd E5 E5 M).mono ?_;rintro e l ⟨q,rfl,hq,k,i⟩;have j:=Kz (n.o.drawn k i);clear k i e7 y5 y6 y3 f5 f6 h0 h1;go_wp2
    go_loopg [] (5+q-s.cases.length) (λgg wr=>∃(vc:NP)(v:Xq),gg=5+q-v.cases.length/\eF (mN+10) I wr rb H.heap.size V.heap.size a cap bs (p+3) cost (.b g L.length B) L xs R (.slice aa s.asks.length ca) vc v)
    case atStart=>exact⟨_,s,rfl,j.o⟩
    case round=>
     clear j;let⟨vc,v,k8,hS⟩:=hrel;have F:=Kz hS;clear hS;obtain⟨h4,h5,rfl⟩:=aF F.o.st.cases;have y2:=F.o.st.box.c2;have yz:=F.o.st.box.row.lt;by_cases k9:(v.cases.length:Int)<5+(q:Int)
     .have Z:K_ wr (wr.alloc (.cells #[.string ⟨#[118,48,40,41]⟩,.a 0] 131)):=ah _ _;have a0:=Kz Z;have b1:=Kz (F.o.kept Z).st.cases;have h6:=(F.o.kept Z).st.kb.size;have h7:Hid (∀Y u,([.string ⟨#[118,48,40,41]⟩,.a 0]:List NP)[Y]? =some u->(wr.alloc (.cells #[.string ⟨#[118,48,40,41]⟩,.a 0] 131)).cell? ((⟨wr.heap.size,0,none⟩:Addr).add Y)=some u):=λY u y=>by rw[Nf];exact X_ wr #[.string ⟨#[118,48,40,41]⟩,.a 0] 131 Y u y
      have d4:Hid (∀u∈([.string ⟨#[118,48,40,41]⟩,.a 0]:List NP),u.oneCell'=true):=λu y=>by simp at y;rcases y with rfl|rfl<;>rfl
      let⟨ic,a4,z,A,a5⟩:=aT Tryz.qH;clear Z;go_wp2_with (at_builtin;refine wpList_append_lies _ rfl (.tmp 149) (.tmp 151) 126 rfl I.heap.size 131 ic _ 2 24 underlying126 a4 z A a5 rfl E8 (.slice h4 v.cases.length h5) v.cases.length (bi v.cases) rfl b1.o ⟨wr.heap.size,0,none⟩ 1 1 [.string ⟨#[118,48,40,41]⟩,.a 0] rfl rfl h7.o d4.o E5 F5 E5 h6 _ rfl ?_;intro g2 e8 w2 c4 a7 X b0;have b3:=F.o.st.Bo a0.o a7;have y4:=b3.c2;have z2:=b3.row.lt;let⟨_,m6⟩:=b3.cell (o:=2) E5;have h8:=Kz c4;have h9:=Kz a7;have e9:=Kz X;clear c4 a7 b3 X b0)
      go_roundg (gk-1)
      case measure=>omega
      case rel=>exact⟨_,{v with cases:=v.cases++[⟨⟨#[118,48,40,41]⟩,0⟩]},by show gk-1=5+q-(v.cases++[_]).length;rw[M_];show gk-1=5+q-(v.cases.length+1);omega,F.o.tK (x:=⟨⟨#[118,48,40,41]⟩,0⟩) a0.o h8.o h9.o (wH e9.o) E5 ⟨E8,E8,E8⟩⟩
     .go_wp2
      go_meet
      exact⟨cost,_,_,v,p+3,N,E5,E5,F.o⟩
   .go_wp2_with fail
    refine (aN _ rb a cap bs (p+2) _ 2 rfl n.o.st.rd E5 E5 M).mono ?_;rintro e l ⟨q,rfl,hq,k,i⟩;have j:=Kz (n.o.drawn k i);clear k i e7 y5 y6 y3 f5 f6 h0 h1;go_wp2
    go_loopg [10] (5+q-s.asks.length) (λgg G wr=>∃(b4:Nat)(va:NP)(v:Xq),G=.a (b4:Int)/\gg=5+q-v.asks.length/\b4+s.asks.length=v.asks.length/\eF (mN+10) I wr rb H.heap.size V.heap.size a cap bs (p+3) cost (.b g L.length B) L xs R va (.slice ac s.cases.length cc) v)
    case atStart=>exact⟨0,_,s,rfl,rfl,E5,j.o⟩
    case round=>
     clear j;obtain⟨b4,va,v,rfl,k8,hi,hS⟩:=hrel;have⟨F,HI⟩:=aH hS hi;clear hS hi;obtain⟨f1,f2,rfl⟩:=aF F.o.st.asks;have y2:=F.o.st.box.c0;have yz:=F.o.st.box.row.lt;by_cases k9:(v.asks.length:Int)<5+(q:Int)
     .have m7:b4<10:=by have:=HI.o;omega
      have f3:=Kz (F.o.kept (aY wr));have Q:=f3.o.st.box.c0;go_upto_region 35 with fail
      refine Qk.region F4 (λw'=>w'.cell? ⟨V.heap.size,0,none⟩=some (.slice f1 v.asks.length f2)) 8 Q λd=>?_;generalize a3:wr.drew=W at f3 d⊢;clear a3 Q;refine ae 0 d ?_;refine ae 1 d ?_;refine ae 2 d ?_;refine aG 3 λK b=>?_;go_simp
      go_at_call 80
      refine (uk _ b4 m7).mono ?_;rintro e f4 ⟨i0,rfl,ht,l0⟩;have d5:=Kz (f3.o.kept l0);clear l0;dsimp only;refine af b (λ_=>d5.o.st.box.c0) ?_;clear b K;clear d f3;have d:=d5.o.st.box.c0;obtain⟨tx,l1⟩:∃tx:NL,(⟨#[109,97,110,121]⟩:NL)++i0=tx:=⟨_,rfl⟩;have m8:tx.size<=300:=by rw[<-l1,ByteArray.size_append];show 4+i0.size<=300;omega
      have f5:¬9223372036854775807<4+i0.size:=E5;refine cK 4 (.string tx) d ?_ ?_
      .intro u y;try dsimp only at y
       go_simp
       try with_reducible rfl
      try simp only[upP]
      clear l1 f5 ht;refine ai 5 λK b=>?_;go_simp
      have U:K_ f4 (f4.alloc (.cells #[.string tx] 9)):=ah _ _;have i1:=Kz (d5.o.kept U);have a2:=Kz U;refine af b (λ_=>i1.o.st.box.c0) ?_;clear b K;clear U d;let⟨ic,a4,z,A,a5⟩:=aT Tryz.gJ;refine ai 6 λK b=>?_;refine step_append_lies _ rfl (.tmp 167) (.tmp 171) 26 rfl I.heap.size 9 ic _ 1 16 underlying26 a4 z A a5 rfl E8 (.slice f1 v.asks.length f2) v.asks.length (v.asks.map Value.string) F9 i1.o.st.asks ⟨f4.heap.size,0,none⟩ 1 1 [.string tx] F9 rfl (lu f4 tx) (kM tx) E5 F5 E5 i1.o.st.kb.size _ rfl ?_;intro g2 e8 w8 a6 S X b0;have E:=Kz (d5.o.st.uG a2.o S);have m9:=Kz (d5.o.qj (x:=tx) a2.o a6 S (wH X) E5 m8);have z6:=E.o.row.lt;have y6:=E.o.c0;let⟨_,f6⟩:=E.o.cell (o:=0) E5;clear a6 S X b0;refine af b (λ_=>E.o.c0) ?_;clear b K;have d:=E.o.c0;refine ae 7 d ?_;refine ai 8 λK b=>?_;go_simp
      refine af b (λh=>NB rfl h) ?_;clear b K;refine aC ?_;go_wp2
      go_roundg (gk-1)
      case measure=>omega
      case rel=>exact⟨b4+1,_,{v with asks:=v.asks++[tx]},F3,by show gk-1=5+q-(v.asks++[_]).length;rw[M_];show gk-1=5+q-(v.asks.length+1);omega,by show b4+1+s.asks.length= (v.asks++[_]).length;rw[M_];have:=HI.o;show b4+1+s.asks.length=v.asks.length+1;omega,m9.o⟩
     .go_wp2
      go_meet
      exact⟨cost,_,_,v,p+3,N,E5,E5,F.o⟩
   .have i2:=Kz (n.o.act k3.o);go_wp2_with fail
    refine (aN _ rb a cap bs (p+2) _ 2 rfl i2.o.rd E5 E5 M).mono ?_;rintro e l ⟨q,rfl,hq,k,i⟩;have e9:=Kz (i2.o.drawn k i);clear k i e7 y5 y6 y3 f5 f6 h0 h1 i2;go_wp2
    go_loopg [] (20+q-L.length) (λgg wr=>∃(v':NP)(L':List Xq)(i3:List NP),gg=20+q-L'.length/\L'.length<=21/\jO (mN+10) I wr rb H.heap.size a cap bs (p+3) cost v' L' i3)
    case atStart=>exact⟨_,L,xs,rfl,hL,e9.o⟩
    case round=>
     clear e9;let⟨v',L',i3,k8,n0,hS⟩:=hrel;have F:=Kz hS;clear hS;obtain⟨av,c9,rfl⟩:=aF F.o.own;have y1:=F.o.c1;have yz:=F.o.row.lt;by_cases k9:(L'.length:Int)<20+(q:Int)
     .have Z:K_ wr (wr.alloc (.cells #[M3,.a 0,M3,.a 0,.a 0,.bool true,.bool false,.string ⟨#[]⟩] 128)):=ah _ _;have a0:=Kz Z;have b1:=Kz (F.o.kept Z).own;have h6:=(F.o.kept Z).kb.size;have h7:Hid (∀Y u,([M3,.a 0,M3,.a 0,.a 0,.bool true,.bool false,.string ⟨#[]⟩]:List NP)[Y]? =some u->(wr.alloc (.cells #[M3,.a 0,M3,.a 0,.a 0,.bool true,.bool false,.string ⟨#[]⟩] 128)).cell? ((⟨wr.heap.size,0,none⟩:Addr).add Y)=some u):=λY u y=>by rw[Nf];exact X_ wr #[M3,.a 0,M3,.a 0,.a 0,.bool true,.bool false,.string ⟨#[]⟩] 128 Y u y
      have d4:Hid (∀u∈([M3,.a 0,M3,.a 0,.a 0,.bool true,.bool false,.string ⟨#[]⟩]:List NP),u.oneCell'=true):=jm ⟨[],0,[],0,0,true,false,⟨#[]⟩⟩ none 0 none 0;let⟨ic,a4,z,A,a5⟩:=aT Tryz.kH;clear Z;go_wp2_with (at_builtin;refine wpList_append_own _ rfl (.tmp 185) (.tmp 187) 29 rfl I.heap.size 128 ic _ 8 96 underlying29 a4 z A a5 rfl E8 (.slice av L'.length c9) L'.length i3 rfl b1.o ⟨wr.heap.size,0,none⟩ 1 1 [M3,.a 0,M3,.a 0,.a 0,.bool true,.bool false,.string ⟨#[]⟩] rfl rfl h7.o d4.o F5 E5 h6 ?_;intro p8 w2 c4 a7 _;have b3:=F.o.fQ a0.o a7;have z2:=b3.2.lt;let⟨⟨_,y2⟩,m6⟩:=b3.2.row.at (i:=1) E5;have h8:=Kz c4;obtain⟨p9,q0,rfl⟩:=aF c4;have h9:=Kz a7;clear c4 a7 b3)
      go_roundg (gk-1)
      case measure=>omega
      case rel=>exact⟨_,L'++[⟨[],0,[],0,0,true,false,⟨#[]⟩⟩],_,by rw[M_];show gk-1=20+q-(L'.length+1);omega,by rw[M_];show L'.length+1<=21;omega,F.o.push (s:=⟨[],0,[],0,0,true,false,⟨#[]⟩⟩) (cs:=[M3,.a 0,M3,.a 0,.a 0,.bool true,.bool false,.string ⟨#[]⟩]) a0.o ⟨none,0,none,0,rfl,.inl rfl,.inl rfl,Mj _⟩ ⟨E9,λG t=>by simp at t,⟨I1,I4⟩,E9,λG t=>by simp at t,nV ⟨I1,I4⟩,⟨I1,I4⟩,E8⟩ (kD (s:=⟨[],0,[],0,0,true,false,⟨#[]⟩⟩) (λ_=>⟨rfl,rfl⟩) λ_=>⟨rfl,rfl⟩) h8.o h9.o⟩
     .have P:=Kz F.o.fin;have C:=Kz (d6.o.but P.o.kb E5);have o0:=P.o.c0;let⟨⟨_,x0⟩,g0⟩:=C.o.row.at (i:=0) E5;let⟨⟨_,x1⟩,g1⟩:=C.o.row.at (i:=1) E5;have xz:=C.o.lt;go_wp2_with fail
      have hR:=Mo wr (w.heap.size+1) 0 [.a cost,.slice av L'.length c9] (C.o.row.there (o:=0) (m:=2) (Mj _));exact Zx [.a cost,.slice av L'.length c9] _ results37 rfl hR underlying31 rfl Tryz.iN rfl (P.o.ends C.o E5 k0 d7.o rfl E5 E5 n0 N)
   .have o1:=n.o.c1;have oz:=n.o.row.lt;let⟨_,fo⟩:=n.o.row.row.at (i:=1) E5;have P:=Kz n.o.cut;have C:=Kz (d6.o.but P.o.kb E5);have o0:=P.o.c0;have n1:=P.o.c1;have n2:=P.o.row.lt;let⟨⟨_,x0⟩,g0⟩:=C.o.row.at (i:=0) E5;let⟨⟨_,x1⟩,g1⟩:=C.o.row.at (i:=1) E5;have xz:=C.o.lt;have q1:(R:Int)<=(B:Int):=E5;go_wp2_with fail
    have hR:=Mo (T.setCell ⟨H.heap.size,1,none⟩ (.b g R B)) (w.heap.size+1) 0 [.a cost,.b g R B] (C.o.row.there (o:=0) (m:=2) (Mj _));exact Zx [.a cost,.b g R B] _ results37 rfl hR underlying31 rfl Tryz.iN rfl (P.o.ends C.o E5 k0 d7.o rfl E5 E5 H6 N)
   .go_wp2
    go_meet
    exact⟨cost,_,_,_,p+2,N,E5,E5,n.o.els _ (in64_wrap64 _)⟩
  case rest=>
   clear n k3 e7;let⟨l2,va,vc,v,p',n3,q2,q3,hX⟩:=hcut;obtain⟨f1,f2,rfl⟩:=aF hX.st.asks;obtain⟨h4,h5,rfl⟩:=aF hX.st.cases;have n:=Kz hX;clear hX;have o1:=n.o.c1;have oz:=n.o.row.lt;have sz:=n.o.st.box.row.lt;let⟨cs,b7⟩:=aj (v.cells f1 f2 h4 h5);have f7:cs.length=8:=by rw[b7];rfl
   have l3:cs.toArray.all (·.oneCell')=true:=by rw[b7];exact Xq.one v _ _ _ _
   have l4:wc.rangeAt V.heap.size 0 cs:=by
    rw[b7];have hb:=n.o.st.box;intro Y G t;rw[MR]
    match Y,t with
    |0,t=>simp[Xq.cells] at t;subst t;exact hb.c0
    |1,t=>simp[Xq.cells] at t;subst t;exact hb.c1
    |2,t=>simp[Xq.cells] at t;subst t;exact hb.c2
    |3,t=>simp[Xq.cells] at t;subst t;exact hb.c3
    |4,t=>simp[Xq.cells] at t;subst t;exact hb.c4
    |5,t=>simp[Xq.cells] at t;subst t;exact hb.c5
    |6,t=>simp[Xq.cells] at t;subst t;exact hb.c6
    |7,t=>simp[Xq.cells] at t;subst t;exact hb.c7
    |Y+8,t=>simp[Xq.cells] at t
   have n4:=Kz l4;have a7:ay wc g 128 (B*8):=by
    rcases n.o.own.2 with⟨e,_⟩|⟨g',c9,n5,e,_,n6,_,_,n7,_⟩
    .simp at e
    .simp only[Nb,Na,NI,and_true,true_and] at e;obtain⟨rfl,rfl⟩:=e;exact⟨n5,n6,n7⟩
   have gz:=a7.lt;have l5:wc.there g (R*8) cs.toArray.size:=by simpa[f7] using a7.row.there (o:=R*8) (m:=8) E5
   have l6:(prog.info? 128).map (·.size)=some cs.toArray.size:=by rw[Tryz.zY];simp[f7]
   have l7:(prog.info? 128).map (·.size)=some cs.length:=by rw[Tryz.zY,f7]
   have⟨n8,n9,o2,d4⟩:=nC l6 l7 l5 l3;have i4:=n.o.store;rw[<-b7] at i4;have P:=Kz i4;have C:=Kz (d6.o.but P.o.kb E5);have o0:=P.o.c0;have n1:=P.o.c1;have n2:=P.o.row.lt;let⟨⟨_,x0⟩,g0⟩:=C.o.row.at (i:=0) E5;let⟨⟨_,x1⟩,g1⟩:=C.o.row.at (i:=1) E5;have xz:=C.o.lt;clear b7 f7 l3 l4 a7 l5 l6 l7 i4;go_wp2_with (first|(refine wpList_load_mid rfl 128 _ rfl V.heap.size 0 rfl cs _ n4.o underlying128 rfl n9.o ?_)|(refine wpList_store_mid rfl 128 _ _ rfl g (R*8) cs.toArray rfl rfl o2.o n8.o d4.o ?_;rw[List.toList_toArray]))
   have hR:=Mo (wc.setCells g (R*8) cs) (w.heap.size+1) 0 [.a l2,.b g L.length B] (C.o.row.there (o:=0) (m:=2) (Mj _));refine Zx [.a l2,.b g L.length B] _ results37 rfl hR underlying31 rfl Tryz.iN rfl (P.o.ends C.o E5 k0 d7.o rfl E5 E5 (by rw[Nu];omega) n3)
structure jk (m:Nat)(w wr:NN)(rb wb:Nat)(a:NM)(cap:Nat)(bs:List UInt8)(p:Nat)(v:NP)(L:List Qz):Prop where
 rd:Rd wr rb a cap bs p
 rd0:∃p0,Rd w rb a cap bs p0
 wbl:w.heap.size<=wb
 kb:Xj rb (rb+1) w wr
 row:ay wr wb 25 1
 c0:wr.cell? ⟨wb,0,none⟩=some v
 web:bS wr v L
 tiny:∀d∈L,d.TinyN m
 fr:lQ w.heap.size v L
variable {L:List Qz}{bs:List UInt8}{cap m p rb wb:Nat}{a:NM}{v:NP}{w wr:NN}
theorem fZ.fin{xs:List NP}(h:fZ m w wr rb wb a cap bs p v L xs):jk m w wr rb wb a cap bs p v L:=⟨h.rd,h.rd0,h.wbl,h.kb,h.row,h.c0,h.web,h.tiny,lQ.gK h.own⟩
variable {n:Nat}
theorem jk.mono(h:jk m w wr rb wb a cap bs p v L)(c:m<=n):jk n w wr rb wb a cap bs p v L:=⟨h.rd,h.rd0,h.wbl,h.kb,h.row,h.c0,h.web,(λd e=>(h.tiny d e).mono c),h.fr⟩
variable {N:Nat}{A0:NN}
theorem jk.ends{M:Nat}{b:NN}{p' t:Nat}{e:Ending}(h:jk M A0 b rb wb a cap bs p' v L){c:Nat}(k:ay b c 25 1)(l:w.heap.size<=c)(k0:K_ w A0){m:Nat}(n:Rd w rb a cap bs m)(q:e=.returned (.agg #[v]))(r:p<=p')(h2:p'<=p+t)(s:L.length<=N):jd M N w (b.setCell ⟨c,0,none⟩ v) rb a cap bs p t e:=by
 have x:=k.same (o:=0) v;have d:Below w.heap.size b (b.setCell ⟨c,0,none⟩ v):=(Below.refl _ _).setCell (p:=⟨c,0,none⟩) l _;have f:Xj rb (rb+1) w b:=⟨h.kb.os.trans k0.os,h.kb.tape.trans k0.tape,h.kb.output.trans k0.output,Mm k0.size h.kb.size,λi j y=>(h.kb.block i (Mk j k0.size) y).trans (k0.block i j)⟩;exact⟨v,L,p',q,r,h2,s,h.tiny,h.web.same x E8 E8 E8 E8,h.rd.below n d f.size,f.below d,h.fr.mono k0.size⟩
variable {c k:Nat}
theorem bS.put{g o:Nat}{d:Qz}{u:NP}{vs:List NP}(p:bS w (.b g n c) L)(C:k<L.length)(q:ay w g 33 N)(D:k*3<=o/\o+vs.length<=k*3+3)(r:(w.setCells g o vs).rangeAt g (k*3) [.string d.name,.a d.cost,u])(s:dE w u d.steps):bS (w.setCells g o vs) (.b g n c) (L.set k d):=by
 let⟨t,h⟩:=q.setCells vs o;let⟨E,F,e,v,x,y⟩:=p;simp only[Nb] at e;obtain⟨rfl,rfl,rfl⟩:=e;refine⟨_,c,by rw[Nu],by rw[Nu];exact v,x,λi a=>?_⟩;rw[Nu] at a;let⟨j,l,_⟩:=t;by_cases e:i=k
 .subst e;have f:(L.set i d).getD i Qz.zero=d:=by simp[List.getD,a]
  rw[f];exact⟨g,0,j,_,u,rfl,l,by rw[MR];exact r,s.same h E8 E8 E8⟩
 .have f:(L.set k d).getD i Qz.zero=L.getD i Qz.zero:=by simp[List.getD,Ne.symm e]
  rw[f];let⟨b,G,H,I,z,m,J,A,B⟩:=y i a;simp only[Na,NI,and_true] at m;obtain⟨rfl,rfl⟩:=m;exact⟨g,0,j,_,z,rfl,l,MG A _ _ _ (by right;simp;omega),B.same h E8 E8 E8⟩
theorem Ay{d:Qz}(a:∀x∈L,x.TinyN m)(b:d.TinyN m):∀x∈L.set k d,x.TinyN m:=λx c=>by
 rcases List.mem_or_eq_of_mem_set c with h|rfl
 .exact a x h
 .exact b
theorem jk.put{g o:Nat}{d:Qz}{u:NP}{vs:List NP}(h:jk m A0 wr rb wb a cap bs p (.b g n c) L)(j:A0.heap.size<=g)(l:k<L.length)(b:ay wr g 33 N)(q:k*3<=o/\o+vs.length<=k*3+3)(r:(wr.setCells g o vs).rangeAt g (k*3) [.string d.name,.a d.cost,u])(s:dE wr u d.steps)(t:d.TinyN m):jk m A0 (wr.setCells g o vs) rb wb a cap bs p (.b g n c) (L.set k d):=by
 let⟨x,v⟩:=h.rd0;have e:Below A0.heap.size wr (wr.setCells g o vs):=Below.setCells' j vs o (Below.refl _ _);let⟨_,w⟩:=b.setCells vs o;have f:=h.row.ji w E8;exact⟨h.rd.below v e h.kb.size,h.rd0,h.wbl,h.kb.below e,f.1,(f.2 0).trans h.c0,h.web.put l b q r s,Ay h.tiny t,λi=>h.fr (by rw[Nu] at i;exact i)⟩
theorem bS.cells{g:Nat}(i:bS w (.b g n c) L)(j:k<L.length):∃a b,w.rangeAt g (k*3) [.string (L.getD k Qz.zero).name,.a (L.getD k Qz.zero).cost,.slice a (L.getD k Qz.zero).steps.length b]/\dE w (.slice a (L.getD k Qz.zero).steps.length b) (L.getD k Qz.zero).steps:=by
 let⟨l,m,e,p,r,q⟩:=i;simp only[Nb] at e;obtain⟨rfl,rfl,rfl⟩:=e;let⟨s,t,v,x,y,d,z,f,h⟩:=q k j;simp only[Na,NI,and_true] at d;obtain⟨rfl,rfl⟩:=d;obtain⟨a,b,rfl⟩:=h.slice;rw[MR] at f;exact⟨a,b,f,h⟩
theorem zK{b q:Nat}(h:w.cell? ⟨b,q,none⟩=some v):w.rangeAt b q [v]:=λj x a=>by
 match j,a with
 |0,a=>simp at a;subst a;exact h
 |j+1,a=>simp at a
theorem uR{b q:Nat}{x y z:NP}(e:w.cell? ⟨b,q,none⟩=some x)(f:w.cell? ⟨b,q+1,none⟩=some y)(h2:w.cell? ⟨b,q+2,none⟩=some z):w.rangeAt b q [x,y,z]:=λj v a=>by
 match j,a with
 |0,a=>simp at a;subst a;exact e
 |1,a=>simp at a;subst a;exact f
 |2,a=>simp at a;subst a;exact h2
 |j+3,a=>simp at a
theorem Fb(w:NN)(g o:Nat)(v:NP):w.setCells g o [v]=w.setCell ⟨g,o,none⟩ v:=rfl
theorem jk.Fu{g:Nat}(h:jk m A0 wr rb wb a cap bs p (.b g n c) L)(j:A0.heap.size<=g)(b:k<L.length)(f:ay wr g 33 N)(r:k*3+3<=N){s:NL}(l:s.size<=300):jk m A0 (wr.setCell ⟨g,k*3,none⟩ (.string s)) rb wb a cap bs p (.b g n c) (L.set k ⟨s,(L.getD k Qz.zero).cost,(L.getD k Qz.zero).steps⟩):=by
 let⟨t,v,i,q⟩:=h.web.cells b;have e:=h.tiny (L.getD k Qz.zero) (by simp[List.getD,b]);rw[<-Fb];refine h.put (d:=⟨s,(L.getD k Qz.zero).cost,(L.getD k Qz.zero).steps⟩) j b f ⟨Mj _,E9⟩ ?_ q ⟨l,e.cost,e.steps,e.each⟩;rw[Fb];exact uR (aR f.row E5 _) ((Xk E5 _).trans (i 1 _ rfl)) ((Xk E5 _).trans (i 2 _ rfl))
theorem jk.GR{g:Nat}(h:jk m A0 wr rb wb a cap bs p (.b g n c) L)(j:A0.heap.size<=g)(e:k<L.length)(f:ay wr g 33 N)(z:k*3+3<=N){cost:Int}{u:NP}{b:List Xq}(l:dE wr u b)(r: -1000<=cost/\cost<=1000)(t:b.length<=21)(w:∀s∈b,s.TinyN m):jk m A0 (wr.setCells g (k*3+1) [.a cost,u]) rb wb a cap bs p (.b g n c) (L.set k ⟨(L.getD k Qz.zero).name,cost,b⟩):=by
 let⟨A,B,x,_⟩:=h.web.cells e;have y:=h.tiny (L.getD k Qz.zero) (by simp[List.getD,e]);refine h.put (d:=⟨(L.getD k Qz.zero).name,cost,b⟩) j e f ⟨E5,E9⟩ ?_ l ⟨y.name,r,t,w⟩;have i:=Mo wr g (k*3+1) [.a cost,u] (f.row.there F6);exact uR (MG (zK (q:=k*3) (v:=.string (L.getD k Qz.zero).name) (by have:=x 0 _ rfl;rwa [Ng] at this)) _ _ _ (by right;simp only[Nc,List.length_nil];omega) 0 _ rfl) (i 0 _ rfl) (i 1 _ rfl)
theorem jk.setNode{g:Nat}(h:jk m A0 wr rb wb a cap bs p (.b g n c) L)(e:A0.heap.size<=g)(f:k<L.length)(b:ay wr g 33 N)(l:k*3+3<=N){d:Qz}{u:NP}(i:dE wr u d.steps)(j:d.TinyN m):jk m A0 (wr.setCells g (k*3) [.string d.name,.a d.cost,u]) rb wb a cap bs p (.b g n c) (L.set k d):=h.put e f b ⟨Mj _,E9⟩ (Mo wr g (k*3) _ (b.row.there F6)) i j
theorem fZ.Km{xs:List NP}(h:fZ m w wr rb wb a cap bs p v L xs)(k:0<L.length):∃g c,v=.b g L.length c/\w.heap.size<=g/\ay wr g 33 (c*3)/\L.length<=c:=by
 rcases h.own.2 with⟨_,e⟩|⟨g,c,b,e,d,f,i,_,j,_⟩
 .omega
 .exact⟨g,c,e,d,⟨b,f,j⟩,i⟩
theorem FW{a:NN}{x y z:NP}{t:TypeId}(K:K_ (w.alloc (.cells #[x,y,z] t)) a):a.cell? ⟨w.heap.size,0,none⟩=some x/\a.cell? ⟨w.heap.size,1,none⟩=some y/\a.cell? ⟨w.heap.size,2,none⟩=some z:=by
 refine⟨?_,?_,?_⟩
 .rw[K.cell E9];simp
 .rw[K.cell E9];simp
 .rw[K.cell E9];simp
theorem K_.un{X w':NN}(k:K_ X.drew w'):K_ X w':=K_.trans (aY _) k
theorem Br{X w':NN}{c:Array NP}{t:TypeId}(k:K_ (X.alloc (.cells c t)) w'):ay w' X.heap.size t c.size:=(ay.made X c t).kept k
theorem Bw{X w':NN}{c:Array NP}{t:TypeId}(k:K_ (X.alloc (.cells c t)).drew w'):ay w' X.heap.size t c.size:=Br k.un
section
variable {W wr w':NN}{rb ob:Nat}{a:NM}{cap:Nat}{bs:List UInt8}{p p':Nat}{cost:Int}{v:NP}{L:List Xq}{u:NP}{l:List Xz}
end
section
variable {W wr w':NN}{rb ob:Nat}{a:NM}{cap:Nat}{bs:List UInt8}{p p':Nat}{cost:Int}{v:NP}{L:List Xq}{u:NP}{l:List Xz}
end
theorem BytesAt.kept{w w':NN}{a:NM}{bs:List UInt8}(h:BytesAt w a bs)(k:K_ w w'):BytesAt w' a bs:=λi c=>by
 let⟨d,o,e,b,f⟩:=h i c;exact⟨d,o,e,Mk b k.size,by rw[k.cell b];exact f⟩
theorem nU(w:NN)(a f:NM)(cap j:Nat)(l:List NL)(q:l.length<=1048576)(m:Strs w a l)(n:Strs w f l):Calls prog 25 #[.slice a l.length cap,.slice f l.length j] w λe w'=>e=.returned (.bool true)/\K_ w w':=by
 go_enter func25,ntmps25
 go_wp2
 go_loopw [5] (λi wr=>∃k:Nat,k<=l.length/\i=.a k/\K_ w wr) (λi _=>l.length-(intOf i).toNat)
 case atStart=>exact⟨0,Ml _,rfl,K_.refl _⟩
 case round=>
  obtain⟨k,r,rfl,d⟩:=hrel;by_cases h:k<l.length
  .obtain⟨b,o,rfl,s,t⟩:=m.kept d k h;obtain⟨v,x,rfl,y,z⟩:=n.kept d k h;generalize l.getD k ByteArray.empty=c at *;have p:(k:Int)<(l.length:Int):=E5;go_wp2
   go_region
   all_goals
    go_wp2
    go_roundw
    case rel=>exact⟨k+1,E5,F3,L8⟩
    case measure=>simp[intOf];omega
  .have p:¬(k:Int)<(l.length:Int):=E5;go_wp2
   go_ret
   exact⟨rfl,d⟩
