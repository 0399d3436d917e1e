import Derived.Test.YtjbipapbckajnaaGreatDoorKVLead
import Derived.Test.YtjbipapbckajnaaGreatDoorKFFmt
import Derived.Deep.RegionLaw
import Derived.Deep.AppendLies
import Derived.Laws.AppendOwnNone
import Derived.Test.YtjbipapbckajnaaGreatDoorKOPutB
import Derived.Deep.CutBlock
set_option maxRecDepth 100000
set_option maxHeartbeats 25600000
namespace Go.Proofs.YtjbipapbckajnaaGreatDoor
open Go.RowKit Go.Proofs.Tryz
def BD(w:Pv)(v:Pw)(L:List Xj):Prop:=∃base xs,w.ownsRow base 176 8 v L.length xs/\fG w 9 231 xs L/\lh xs
def sF(w w':Pv)(rb:Nat)(a:Pt)(cap:Nat)(bs:List UInt8)(p t:Nat)(e:Ending):Prop:=
 ∃(cost:Int) (v:Pw) (L:List Xj) (p':Nat),e= .returned (.agg #[.a cost,v])/\p<=p'/\p'<=p+t/\1<=L.length/\L.length<=20/\(-1000<=cost/\cost<=1000)/\(∀s∈L,s.Tiny)/\
  BD w' v L/\Rd w' rb a cap bs p'/\Xk rb (rb+1) w w'
variable {bs : List UInt8} {cap p rb : Nat} {a : Pt} {w w1 : Pv}
theorem ASt.made{b:Nat}(e:Rd w rb a cap bs b)(h:Rd w1 rb a cap bs p)(k:Xk rb (rb+1) w w1)(cost:Int):
  ASt w (w1.alloc (.cells #[.a cost,J3] 73)) rb w1.heap.size a cap bs p cost J3 [] []:=by
 have c:=Xz w1 #[.a cost,J3] 73;have d:K_ w1 (w1.alloc (.cells #[.a cost,J3] 73)):=ah _ _;exact⟨h.kept d,⟨b,e⟩,k.size,k.gp d,aB.made w1 _ _,c 0 _ rfl,c 1 _ rfl,OO _ _ _ _,fG.nil _ _ _,λs f=>by simp at f,λn j i=>by simp at i⟩
theorem SSt.made{W:Pv}(h:Rd W rb a cap bs p){els fall:Int}(e: -1000<=els/\els<=1000)(f: -1000<=fall/\fall<=1000):
  SSt W (W.alloc (.cells #[J3,.a 0,J3,.a els,.a fall,.bool false,.bool false,.string ⟨#[]⟩] 176)) rb W.heap.size a cap bs p J3 J3 ⟨[],0,[],els,fall,false,false,⟨#[]⟩⟩:=by
 have d:K_ W (W.alloc (.cells #[J3,.a 0,J3,.a els,.a fall,.bool false,.bool false,.string ⟨#[]⟩] 176)):=ah _ _;exact⟨h.kept d,⟨p,h⟩,NQ _,.au d,dD.made W els fall,OO _ _ _ _,OO _ _ _ _,⟨A9,λx b=>by simp at b,⟨F6,F7⟩,A9,λx b=>by simp at b,n_ e,f,by show (⟨#[]⟩:Ps).size<=300;decide⟩⟩
theorem Ed(w:Pv)(a:Pt)(cap m:Nat)(l:List Ps)(c:l.length=m)(i:l.length<=1000)(d:∀s∈l,s.size<=1000)(f:Strs w a l):
  Calls prog 66 #[.slice a m cap] w λe w'=>(∃b:Bool,e= .returned (.bool b))/\K_ w w':=by
 subst c;refine (lZ w a cap l D5 (λs h=>by have:=d s h;unfold maxLen;omega) f).mono ?_;rintro e w' ⟨⟨r,rfl,_⟩,k⟩;exact⟨⟨r,rfl⟩,k⟩
theorem lK(w:Pv)(x:Ps):∀j u,([.string x]:List Pw)[j]? =some u->(w.alloc (.cells #[.string x] 9)).cell? ((⟨w.heap.size,0,none⟩:Addr).add j)=some u:=λj u a=>by
 rw[OI];exact Xz w #[.string x] 9 j u a
theorem kY(x:Ps):∀u∈([.string x]:List Pw),u.oneCell'=true:=λu a=>by simp at a;subst a;rfl
variable {xs : List Pw} {v : Pw} {A0 w5 : Pv}
theorem jR.ends{l:Nat}{p' t:Nat}{cost:Int}{b:List Xj}{e:Ending}(h:jR 20 A0 w5 rb l a cap bs p' cost v b xs)(c:aB w5 w.heap.size 73 2)(k0:K_ w A0){m:Nat}(n:Rd w rb a cap bs m)
 (q:e= .returned (.agg #[.a cost,v])) (r:p<=p') (h2:p'<=p+t) (s:1<=b.length) (x:b.length<=20) (y: -1000<=cost/\cost<=1000):sF w ((w5.setCell ⟨w.heap.size,0,none⟩ (.a cost)).setCell ⟨w.heap.size,1,none⟩ v) rb a cap bs p t e:=by
 have z:=c.same (o:=0) (.a cost);have A:=(c.set (o:=0) (.a cost)).same (o:=1) v;have d:=z.trans A;have f:Below w.heap.size w5 ((w5.setCell ⟨w.heap.size,0,none⟩ (.a cost)).setCell ⟨w.heap.size,1,none⟩ v):=((Below.refl _ _).setCell (p:=⟨w.heap.size,0,none⟩) (NQ _) _).setCell (p:=⟨w.heap.size,1,none⟩) (NQ _) _;have i:Xk rb (rb+1) w w5:=⟨h.kb.os.trans k0.os,h.kb.tape.trans k0.tape,h.kb.output.trans k0.output,NT k0.size h.kb.size,λj k B=>(h.kb.block j (NR k k0.size) B).trans (k0.block j k)⟩;exact⟨cost,v,b,p',q,r,h2,s,x,y,h.tiny,⟨_,xs,aU h.own d A8,h.pack.same d A8 A8,h.oP⟩,h.rd.below n f i.size,i.below f⟩
def NE(A0:Pv)(ab rb:Nat)(a:Pt)(cap:Nat)(bs:List UInt8)(p:Nat)(s8:Pw)(wx:Pv):Prop:=
 ∃(n1:Nat) (cost:Int) (p':Nat),s8= .a (1+ (n1:Int))/\n1<=3/\(1<=cost/\cost<=20)/\p<=p'/\p'<=p+4/\ASt A0 wx rb ab a cap bs p' cost J3 [] []
def ML(A0:Pv)(ab rb:Nat)(a:Pt)(cap:Nat)(bs:List UInt8)(p:Nat)(s7:Pw)(wx:Pv):Prop:=
 ∃(cost:Int),s7= .c ab/\(1<=cost/\cost<=20)/\ASt A0 wx rb ab a cap bs (p+2) cost J3 [] []
theorem Dm{a:Addr}{l:List Ps}(h:Strs w (some a) l):∀j u,(l.map Value.string)[j]? =some u->w.cell? (a.add j)=some u:=by
 intro j u b;rw[List.getElem?_map] at b;obtain⟨x,d,rfl⟩:=Option.map_eq_some_iff.1 b;obtain⟨c,f⟩:=NW.1 d;obtain⟨k,m,e,_,i⟩:=h j c;simp only[OE] at e;subst e;rw[OI,i];simp[List.getD,c,f]
theorem BI{a:Addr}{l:List bS}(h:lI w (some a) l):∀j u,(bA l)[j]? =some u->w.cell? (a.add j)=some u:=by
 intro j u b;have k:j<l.length*2:=by rw[<-iO];exact (NW.1 b).1
 have c:j / 2<l.length:=A7;have e:=lJ l (j / 2) (j % 2) c A7;rw[show j / 2*2+j % 2=j by omega,b] at e;obtain⟨m,d,f,_,i⟩:=h (j / 2) c;simp only[OE] at f;subst f;have:=i (j % 2) u e.symm;rw[OI];rw[show d+j / 2*2+j % 2=d+j by omega] at this;exact this
def kW(w:Pv)(a:Pt)(l:List Xj):Prop:=
 ∀i,i<l.length->∃b o aa ca ac cc,a=some ⟨b,o,none⟩/\b<w.heap.size/\w.rangeAt b (o+i*8) ((l.getD i Xj.zero).cells aa ca ac cc)/\Strs w aa (l.getD i Xj.zero).asks/\lI w ac (l.getD i Xj.zero).cases/\
  (aa=none->(l.getD i Xj.zero).asks.length=0/\ca=0)/\(ac=none->(l.getD i Xj.zero).cases.length=0/\cc=0)
variable {l : List Xj} {w' : Pv}
theorem kW.kept(h:kW w a l)(k:K_ w w'):kW w' a l:=by
 intro i c;obtain⟨d,o,e,f,j,m,n,b,p,q,r,s,t⟩:=h i c;exact⟨d,o,e,f,j,m,n,NR b k.size,k.range b p,q.kept k,r.kept k,s,t⟩
def iV(w:Pv)(base:Nat)(cs:List Pw)(s:Xj):Prop:=
 ∃aa ca ac cc,cs=s.cells aa ca ac cc/\w.ownsRow base 9 1 (.slice aa s.asks.length ca) s.asks.length (s.asks.map Value.string)/\w.ownsRow base 231 2 (.slice ac s.cases.length cc) s.cases.length (bA s.cases)
variable {cs : List Pw} {s : Xj} {u : TypeId}
theorem iV.same{base:Nat}(h:iV w base cs s)(k:aC u w w')(a:9≠u)(h2:231≠u):iV w' base cs s:=by
 obtain⟨b,c,d,e,f,i,j⟩:=h;exact⟨b,c,d,e,f,aU i k a,aU j k h2⟩
theorem iV.base{base base':Nat}(h:iV w base cs s)(a:base'<=base):iV w base' cs s:=by
 obtain⟨b,c,d,e,f,i,j⟩:=h;exact⟨b,c,d,e,f,gQ i a,gQ j a⟩
theorem iV.step{base:Nat}(h:iV w base cs s):lY w 9 231 cs s:=by
 obtain⟨k,l,m,n,e,c,d⟩:=h;obtain⟨p,q,a,f,i⟩:=di c;obtain⟨r,t,b,j⟩:=lX d;simp only[OG,true_and] at a b;obtain⟨rfl,rfl⟩:=a;obtain⟨rfl,rfl⟩:=b;exact⟨_,_,_,_,e,i,j,f⟩
theorem iV.oP{base:Nat}(h:iV w base cs s):lh cs:=by
 obtain⟨c,d,f,i,rfl,a,b⟩:=h;exact kM (λe=>by subst e;exact iR a) (λe=>by subst e;exact iR b)
def yl(cs:List Pw):Option Nat:=(cs.getD 0 undef).ownBlock
def sW(cs:List Pw):Option Nat:=(cs.getD 2 undef).ownBlock
theorem iV.En{base:Nat}(h:iV w base cs s):(∀b,yl cs=some b->base<=b/\b<w.heap.size)/\∀b,sW cs=some b->base<=b/\b<w.heap.size:=by
 obtain⟨e,f,i,j,rfl,c,d⟩:=h;exact⟨λb a=>c.lt b a,λb a=>d.lt b a⟩
def lN(xs:List Pw)(i:Nat):List Pw:=(xs.drop (i*8)).take 8
structure eQ (w:Pv) (base:Nat) (xs:List Pw) (l:List Xj):Prop where
 len:xs.length=l.length*8
 each:∀i,i<l.length->iV w base (lN xs i) (l.getD i Xj.zero)
 apart:∀i j,i<l.length->j<l.length->i≠j->(∀b,yl (lN xs i)=some b->yl (lN xs j)≠some b)/\∀b,sW (lN xs i)=some b->sW (lN xs j)≠some b
theorem eQ.nil(w:Pv)(base:Nat):eQ w base [] []:=⟨rfl,λi a=>by simp at a,λi j a=>by simp at a⟩
theorem eQ.same{base:Nat}(h:eQ w base xs l)(k:aC u w w')(b:9≠u)(h2:231≠u):eQ w' base xs l:=
 ⟨h.len,λi d=>(h.each i d).same k b h2,h.apart⟩
theorem eQ.packed{base:Nat}(h:eQ w base xs l):fG w 9 231 xs l:=⟨h.len,λi c=>(h.each i c).step⟩
theorem eQ.push{base H:Nat}(m:eQ w base xs l)(d:iV w H cs s)(a:base<=H)(k:∀i,i<l.length->(∀b,yl (lN xs i)=some b->b<H)/\∀b,sW (lN xs i)=some b->b<H):eQ w base (xs++cs) (l++ [s]):=by
 have p:cs.length=8:=by obtain⟨_,_,_,_,rfl,_⟩:=d;rfl
 have n:=m.len;have old:∀i,i<l.length->lN (xs++cs) i=lN xs i/\(l++ [s]).getD i Xj.zero=l.getD i Xj.zero:=by
  intro i h;refine⟨?_,by simp[List.getD,OU h]⟩;unfold lN;rw[List.drop_append_of_le_length A7,List.take_append_of_le_length I6]
 have new:lN (xs++cs) l.length=cs/\(l++ [s]).getD l.length Xj.zero=s:=by
  refine⟨?_,G9⟩;unfold lN;rw[<-n,List.drop_left,Oy A7]
 refine⟨by simp only[OD,OH,List.length_nil,n,p];omega,λi h=>?_,λi j h q r=>?_⟩
 .by_cases e:i<l.length
  .rw[(old i e).1,(old i e).2];exact m.each i e
  .obtain rfl:i=l.length:=by simp at h;omega
   rw[new.1,new.2];exact d.base a
 .simp only[OD,OH,List.length_nil] at h q;by_cases e:i<l.length
  .by_cases f:j<l.length
   .rw[(old i e).1,(old j f).1];exact m.apart i j e f r
   .obtain rfl:j=l.length:=A7;rw[(old i e).1,new.1];exact⟨λb a c=>by have:=(k i e).1 b a;have:=(d.En.1 b c).1;omega,λb a c=>by have:=(k i e).2 b a;have:=(d.En.2 b c).1;omega⟩
  .obtain rfl:i=l.length:=A7;have f:j<l.length:=A7;rw[new.1,(old j f).1];exact⟨λb a c=>by have:=(k j f).1 b c;have:=(d.En.1 b a).1;omega,λb a c=>by have:=(k j f).2 b c;have:=(d.En.2 b a).1;omega⟩
structure CSt (w wr:Pv) (a:Pt) (n cap:Nat) (cost:Int) (v:Pw) (L:List Xj) (xs:List Pw):Prop where
 kept:K_ w wr
 Mf:aB wr w.heap.size 73 2
 arg:wr.cell? ⟨w.heap.size,1,none⟩=some (.slice a n cap)
 res:aB wr (w.heap.size+1) 73 2
 out:aB wr (w.heap.size+2) 73 2
 o0:wr.cell? ⟨w.heap.size+2,0,none⟩=some (.a cost)
 o1:wr.cell? ⟨w.heap.size+2,1,none⟩=some v
 own:wr.ownsRow w.heap.size 176 8 v L.length xs
 pack:eQ wr w.heap.size xs L
variable {L : List Xj} {n : Nat} {wr : Pv}
theorem CSt.au{cost:Int}(h:CSt w wr a n cap cost v L xs)(k:K_ wr w'):CSt w w' a n cap cost v L xs:=
 ⟨h.kept.trans k,h.Mf.kept k,(k.cell h.Mf.lt).trans h.arg,h.res.kept k,h.out.kept k,(k.cell h.out.lt).trans h.o0,(k.cell h.out.lt).trans h.o1,ak h.own k,h.pack.same (u:=114) (aC.au k) A8 A8⟩
variable {w2 : Pv}
theorem CSt.fZ{cost:Int}(h:CSt w wr a n cap cost v L xs)(f:K_ wr w1)(i:w1.grownBy w2 v.ownBlock):w2.cell? ⟨w.heap.size+2,1,none⟩=some v/\aB w2 (w.heap.size+2) 73 2:=by
 have b:=h.au f;have j:aC 176 w1 w2:=aC.aI b.own i;obtain⟨c,d,k⟩:=b.out;have e:=j _ c _ _ A8 d;exact⟨by rw[Od (w:=w1) (e.trans d.symm)];exact b.o1,c,e,k⟩
variable {v' : Pw}
theorem CSt.push{f:Pv}{cost:Int}(h:CSt w wr a n cap cost v L xs)(x:K_ wr f)(i:K_ f w1)(y:iV f wr.heap.size cs s)
 (z:w2.ownsRow w.heap.size 176 8 v' (L.length+1) (xs++cs)) (j:w1.grownBy w2 v.ownBlock):CSt w (w2.setCell ⟨w.heap.size+2,1,none⟩ v') a n cap cost v' (L++ [s]) (xs++cs):=by
 have b:=h.au (x.trans i);have k:aC 176 w1 w2:=aC.aI b.own j;have row:∀c,aB w1 c 73 2->aB w2 c 73 2/\∀o,w2.cell? ⟨c,o,none⟩=w1.cell? ⟨c,o,none⟩:=by
  intro c A;obtain⟨l,m,B⟩:=A;have d:=k _ l _ _ A8 m;exact⟨⟨l,d,B⟩,λo=>Od (w:=w1) (d.trans m.symm)⟩
 have p:=row _ b.Mf;have C:=row _ b.res;have e:=row _ b.out;have q:=e.1.same (o:=1) v';have D:=h.kept.size;have E:eQ w1 w.heap.size (xs++cs) (L++ [s]):=b.pack.push (y.same (u:=114) (aC.au i) A8 A8) D (λr t=>⟨λc d=>((h.pack.each r t).En.1 c d).2,λc d=>((h.pack.each r t).En.2 c d).2⟩);refine⟨(aL b.kept (NQ _) b.own j).setCell A9 _,p.1.block (Below.heap_setCell _ _ _ _ A9), ?_,C.1.block (Below.heap_setCell _ _ _ _ A9),e.1.set _,(Xx A7 _).trans ((e.2 0).trans b.o0),bu e.1.row A7 _, ?_,(E.same k A8 A8).same q A8 A8⟩
 .rw[Ol _ _ _ _ A9];exact (p.2 1).trans b.arg
 .have:=aU z q A8;simpa using this
def CS1(wr wx:Pv)(s:Xj)(v1 v2:Pw):Prop:=K_ wr wx/\dD wx wr.heap.size v1 v2 s/\wx.ownsRow wr.heap.size 9 1 v1 s.asks.length (s.asks.map Value.string)
def CS2(wr wx:Pv)(s:Xj)(v1 v2:Pw):Prop:=CS1 wr wx s v1 v2/\wx.ownsRow wr.heap.size 231 2 v2 s.cases.length (bA s.cases)
def Na(w w':Pv)(cost:Int)(L:List Xj)(e:Ending):Prop:=
 ∃(v:Pw) (xs:List Pw),e= .returned (.agg #[.a cost,v])/\w'.ownsRow w.heap.size 176 8 v L.length xs/\eQ w' w.heap.size xs L/\K_ w w'
theorem dD.copied(w:Pv)(s:Xj)(b:Pt)(c:Nat)(d:Pt)(e:Nat):dD (w.alloc (.cells #[.slice b s.asks.length c,.a s.on,.slice d s.cases.length e,.a s.els,.a s.fall,.bool s.fin,.bool s.bad,.string s.give] 176)) w.heap.size (.slice b s.asks.length c) (.slice d s.cases.length e) s:=by
 have f:=Xz w #[.slice b s.asks.length c,.a s.on,.slice d s.cases.length e,.a s.els,.a s.fall,.bool s.fin,.bool s.bad,.string s.give] 176;have a:∀j v,(#[.slice b s.asks.length c,.a s.on,.slice d s.cases.length e,.a s.els,.a s.fall,.bool s.fin,.bool s.bad,.string s.give]:Array Pw).toList[j]? =some v->J4 (w.alloc (.cells #[.slice b s.asks.length c,.a s.on,.slice d s.cases.length e,.a s.els,.a s.fall,.bool s.fin,.bool s.bad,.string s.give] 176)) w.heap.size j v:=λj v h=>by
  have:=f j v h;rw[Ow] at this;exact this
 exact⟨aB.made w _ _,a 0 _ rfl,a 1 _ rfl,a 2 _ rfl,a 3 _ rfl,a 4 _ rfl,a 5 _ rfl,a 6 _ rfl,a 7 _ rfl⟩
variable {xs0 : List Pw} {n0 : Nat} {u0 v0 : Pw} {W1 : Pv}
theorem CS1.mk'{v1 v2:Pw}(e:K_ wr W1)(f:dD W1 wr.heap.size v0 v2 s)(a:K_ W1 w1)(b:w1.ownsRow wr.heap.size 9 1 u0 n0 xs0)(c:w1.grownBy w2 u0.ownBlock)
 (h:w2.ownsRow wr.heap.size 9 1 v1 s.asks.length (s.asks.map Value.string)):CS1 wr (w2.setCell ⟨wr.heap.size,0,none⟩ v1) s v1 v2:=by
 have d:dD w2 wr.heap.size v0 v2 s:=(f.kept a).same (aC.aI b c) A8;exact⟨(aL (e.trans a) (NQ _) b c).setCell (NQ _) _,d.asks v1 s.asks,aU h (d.row.same _) A8⟩
theorem CS1.box{v2:Pw}(a:dD W1 wr.heap.size v0 v2 s)(b:K_ W1 w1)(c:w1.ownsRow wr.heap.size 9 1 u0 n0 xs0)(d:w1.grownBy w2 u0.ownBlock):dD w2 wr.heap.size v0 v2 s:=
 (a.kept b).same (aC.aI c d) A8
theorem CS2.mk'{v1 v2:Pw}(h:CS1 wr W1 s v1 v0)(a:K_ W1 w1)(c:w1.ownsRow wr.heap.size 231 2 u0 n0 xs0)(d:w1.grownBy w2 u0.ownBlock)
 (f:w2.ownsRow wr.heap.size 231 2 v2 s.cases.length (bA s.cases)):CS2 wr (w2.setCell ⟨wr.heap.size,2,none⟩ v2) s v1 v2:=by
 obtain⟨i,j,k⟩:=h;have e:=aC.aI c d;have b:dD w2 wr.heap.size v1 v0 s:=(j.kept a).same e A8;exact⟨⟨(aL (i.trans a) (NQ _) c d).setCell (NQ _) _,b.cases v2 s.cases,aU (aU (ak k a) e A8) (b.row.same _) A8⟩,aU f (b.row.same _) A8⟩
theorem CS2.box{v1:Pw}(h:CS1 wr W1 s v1 v0)(b:K_ W1 w1)(c:w1.ownsRow wr.heap.size 231 2 u0 n0 xs0)(d:w1.grownBy w2 u0.ownBlock):dD w2 wr.heap.size v1 v0 s:=
 (h.2.1.kept b).same (aC.aI c d) A8
theorem xC(w:Pv)(r:Option Nat):w.grownBy w r:=⟨rfl,rfl,rfl,NQ _,λ_ _ _=>rfl⟩
theorem DI(w:Pv){base:Nat}(a:base<=w.heap.size)(t:TypeId)(size:Nat):(w.alloc (.cells #[] t)).ownsRow base t size (.b w.heap.size 0 0) 0 []:=
 Ov w #[] 0 a (NS _) A9
theorem Ec(w:Pv)(cost:Int)(a:Pt)(cap:Nat)(l:List Xj)(hl:l.length<=1000){mN:Nat}(f7:mN<=1000)(hs:∀s∈l,s.TinyN mN)(hS:kW w a l):
  Calls prog 193 #[.agg #[.a cost,.slice a l.length cap]] w λe w'=>Na w w' cost l e:=by
 go_enter func193,ntmps193
 go_wp2
 have k0:K_ w (((w.alloc (.cells #[.a cost,.slice a l.length cap] 73)).alloc (.cells #[.a 0,J3] 73)).alloc (.cells #[.a cost,J3] 73)):=((ah _ _).alloc _).alloc _;go_loopg [4] l.length (λg b6 wr=>∃(k:Nat) (b2:Pw) (C:List Pw),k+g=l.length/\b6= .a k/\CSt w wr a l.length cap cost b2 (l.take k) C)
 case atStart=>
  have X:=Xz ((w.alloc (.cells #[.a cost,.slice a l.length cap] 73)).alloc (.cells #[.a 0,J3] 73)) #[.a cost,J3] 73;simp only[OC] at X;refine⟨0,J3,[],A7,rfl,⟨k0, ?_, ?_, ?_, ?_,X 0 _ rfl,X 1 _ rfl,OO _ _ _ _,eQ.nil _ _⟩⟩
  .exact aB.kept (aB.made w #[.a cost,.slice a l.length cap] 73) ((ah _ _).alloc _)
  .rw[K_.cell (w:=w.alloc (.cells #[.a cost,.slice a l.length cap] 73)) ((ah _ _).alloc _) A9];exact Xz w _ _ 1 _ rfl
  .exact aB.kept (by have:=aB.made (w.alloc (.cells #[.a cost,.slice a l.length cap] 73)) #[.a 0,J3] 73;simpa using this) (ah _ _)
  .have:=aB.made ((w.alloc (.cells #[.a cost,.slice a l.length cap] 73)).alloc (.cells #[.a 0,J3] 73)) #[.a cost,J3] 73;simpa using this
 case round=>
  clear k0;obtain⟨k,b2,C,Y,rfl,Q⟩:=hrel;have b:=Kz Q;have p1:=Q.arg;have zp:=Q.Mf.lt;clear Q;by_cases R:k<l.length
  .obtain⟨f8,o,S,T,D,E,rfl,hb,i,Z,a0,y,z⟩:=(hS.kept b.o.kept) k R;have F:=hs (l.getD k Xj.zero) (by simp[List.getD,R]);obtain⟨s,a1⟩:=ai (l.getD k Xj.zero);rw[<-a1] at i Z a0 F y z;have b7:=Kz a1;clear a1;have c0:=i 0 _ rfl;have c1:=i 1 _ rfl;have c2:=i 2 _ rfl;have c3:=i 3 _ rfl;have c4:=i 4 _ rfl;have c5:=i 5 _ rfl;have c6:=i 6 _ rfl;have c7:=i 7 _ rfl;rw[OJ] at c0;clear i;have⟨HA,b8⟩:=aH Z a0;have v:=Kz (dD.copied wr s S T D E);have x:Hid (K_ wr (wr.alloc (.cells #[.slice S s.asks.length T,.a s.on,.slice D s.cases.length E,.a s.els,.a s.fall,.bool s.fin,.bool s.bad,.string s.give] 176))):=ah _ _;have b9:=F.asks;have c8:=F.cases;have f9:=Kz F;clear Z a0 F;have g0:(k:Int)<l.length:=A7;go_upto_region 6 with fail
   obtain⟨G,b3⟩:=ai (wr.alloc (.cells #[.slice S s.asks.length T,.a s.on,.slice D s.cases.length E,.a s.els,.a s.fall,.bool s.fin,.bool s.bad,.string s.give] 176));rw[<-b3] at v x⊢;clear b3 c0 c1 c2 c3 c4 c5 c6 c7 p1;have y0:=v.o.c0;have H:=v.o.row.lt;have c9:=x.o.size;obtain⟨_,f0⟩:=v.o.cell (o:=0) A7;obtain⟨ia,d0,d1,d2,d3⟩:=aS Tryz.gM;obtain⟨ic,d4,d5,d6,d7⟩:=aS Tryz.qW;have c:=Kz (DI G (base:=wr.heap.size) x.o.size 9 1);have d:Hid (K_ G (G.alloc (.cells #[] 9))):=ah _ _;go_cut [5] from 9 to 36 (λs5 wx=>∃U,s5= .c wr.heap.size/\CS1 wr wx s U (.slice D s.cases.length E))
   case first=>
    rcases S with _|ad
    .obtain⟨A,I⟩:=y rfl;have a2:Hid (s.asks=[]):=Pj A;rw[A,I] at y0;clear y z b9 A I;go_wp2
     go_meet
     rw[<-World.setCell_alloc_past _ _ _ _ H];exact⟨_,rfl,CS1.mk' x.o v.o d.o c.o (xC _ _) (by rw[a2.o];exact c.o)⟩
    .have J:=Kz (Dm ((HA.o.kept x.o).kept d.o));have a3:wr.heap.size<=(G.alloc (.cells #[] 9)).heap.size:=(x.o.trans d.o).size;clear y z;go_wp2_with (at_builtin;refine wpList_append_own _ rfl (.tmp 21) (.tmp 23) 26 rfl wr.heap.size 9 ia _ 1 16 underlying26 d0 d1 d2 d3 rfl A8 (.b G.heap.size 0 0) 0 [] rfl c.o ad s.asks.length T (s.asks.map Value.string) rfl A9 J.o (xJ _) D5 A7 a3 ?_;intro U w2 n B _;rw[Ow,List.nil_append] at n;obtain⟨d8,d9,rfl⟩:=ay n;have f:=CS1.box v.o d.o c.o B;have K:=f.c0;have z2:=f.row.lt;obtain⟨_,V⟩:=f.cell (o:=0) A7;have a4:=Kz n;have a5:=Kz B;clear n B f)
     go_meet
     exact⟨_,rfl,CS1.mk' x.o v.o d.o c.o a5.o a4.o⟩
   case rest=>
    clear c d y0 H f0 c9;obtain⟨U,rfl,h1⟩:=hcut;obtain⟨L,rfl⟩:=ai wc;have j:=Kz h1;clear h1 v x;have K:=j.o.2.1.c2;have H:=j.o.2.1.row.lt;obtain⟨_,V⟩:=j.o.2.1.cell (o:=2) A7;have c:=Kz (DI L (base:=wr.heap.size) j.o.1.size 231 2);have d:Hid (K_ L (L.alloc (.cells #[] 231))):=ah _ _;go_upto_region 7 with fail
    go_cut [5] from 9 to 36 (λs5 wx=>∃v2,s5= .c wr.heap.size/\CS2 wr wx s U v2)
    case first=>
     rcases D with _|ad
     .obtain⟨A,I⟩:=z rfl;have a2:Hid (s.cases=[]):=Pj A;rw[A,I] at K;clear y z c8 A I;go_wp2
      go_meet
      rw[<-World.setCell_alloc_past _ _ _ _ H];exact⟨_,rfl,CS2.mk' j.o d.o c.o (xC _ _) (by rw[a2.o];exact c.o)⟩
     .have J:=Kz (BI ((b8.o.kept j.o.1).kept d.o));have a3:wr.heap.size<=(L.alloc (.cells #[] 231)).heap.size:=(j.o.1.trans d.o).size;clear y z;go_wp2_with (at_builtin;refine wpList_append_own _ rfl (.tmp 26) (.tmp 28) 174 rfl wr.heap.size 231 ic _ 2 24 underlying174 d4 d5 d6 d7 rfl A8 (.b L.heap.size 0 0) 0 [] rfl c.o ad s.cases.length E (bA s.cases) rfl (iO _) J.o (xH _) D5 A7 a3 ?_;intro v2 w2 n B _;rw[Ow,List.nil_append] at n;obtain⟨d8,d9,rfl⟩:=ay n;have f:=CS2.box j.o d.o c.o B;have K:=f.c2;have z2:=f.row.lt;obtain⟨_,V⟩:=f.cell (o:=2) A7;have a4:=Kz n;have a5:=Kz B;clear n B f)
      go_meet
      exact⟨_,rfl,CS2.mk' j.o d.o c.o a5.o a4.o⟩
    case rest=>
     clear c d K H V j;obtain⟨v2,rfl,h2⟩:=hcut;obtain⟨⟨k4,h,a6⟩,a7⟩:=h2;obtain⟨p,q,rfl⟩:=ay a6;obtain⟨r,t,rfl⟩:=ay a7;have e0:Hid (iV wc wr.heap.size (s.cells p q r t) s):=⟨p,q,r,t,rfl,a6,a7⟩;have⟨g1,a8⟩:=aH h k4;clear a6 a7;have c0:=h.c0;have c1:=h.c1;have c2:=h.c2;have c3:=h.c3;have c4:=h.c4;have c5:=h.c5;have c6:=h.c6;have c7:=h.c7;have cz:=h.row.lt;clear h k4;have M:=b.o.au a8.o;obtain⟨e1,e2,rfl⟩:=ay b.o.own;have o1:=M.o1;have oz:=M.out.lt;have N:K_ wc (wc.alloc (.cells #[.slice p s.asks.length q,.a s.on,.slice r s.cases.length t,.a s.els,.a s.fall,.bool s.fin,.bool s.bad,.string s.give] 176)):=ah _ _;have e3:=Kz N;have b4:=Kz (M.au N).own;have e4:=Kz (M.au N).kept.size;have b5:∀W u,(s.cells p q r t)[W]? =some u->(wc.alloc (.cells #[.slice p s.asks.length q,.a s.on,.slice r s.cases.length t,.a s.els,.a s.fall,.bool s.fin,.bool s.bad,.string s.give] 176)).cell? ((⟨wc.heap.size,0,none⟩:Addr).add W)=some u:=λW u hu=>by rw[OI];exact Xz wc #[.slice p s.asks.length q,.a s.on,.slice r s.cases.length t,.a s.els,.a s.fall,.bool s.fin,.bool s.bad,.string s.give] 176 W u hu
     have J:=Kz b5;obtain⟨is,e5,e6,e7,e8⟩:=aS Tryz.kR;have a9:(l.take k).length=k:=E9;rw[a9] at o1 b4 b;have g2:k<=1000:=A7;have e9:=Kz a9;have f1:=Kz (a8.o.trans N);clear N b5 M y z a9;go_wp2_with (at_builtin;refine wpList_append_own _ rfl (.tmp 32) (.tmp 34) 71 rfl w.heap.size 176 is _ 8 96 underlying71 e5 e6 e7 e8 rfl A8 (.slice e1 k e2) k C rfl b4.o ⟨wc.heap.size,0,none⟩ 1 1 (s.cells p q r t) rfl rfl J.o (jm s p q r t) D5 A7 e4.o ?_;intro v' w2 b0 b1 _;have f:=b.o.fZ f1.o b1;have z2:=f.2.lt;obtain⟨⟨_,K⟩,V⟩:=f.2.row.at (i:=1) A7;have f2:=Kz b0;obtain⟨O,P,rfl⟩:=ay b0;have f3:=Kz b1;clear b0 b1 f)
     go_roundg (gk-1)
     case measure=>omega
     case rel=>
      have et:l.take (k+1)=l.take k++ [s]:=by
       rw[NY R,b7.o];simp[List.getD,R]
      refine⟨k+1,.slice O (k+1) P,C++s.cells p q r t,A7,C8, ?_⟩;rw[et];exact b.o.push a8.o e3.o e0.o (by rw[e9.o];exact f2.o) f3.o
  .have f4:k=l.length:=A7;subst f4;rw[Ox] at b;have o0:=b.o.o0;obtain⟨O,P,rfl⟩:=ay b.o.own;have o1:=b.o.o1;have oz:=b.o.out.lt;obtain⟨⟨_,x0⟩,g3⟩:=b.o.res.row.at (i:=0) A7;obtain⟨⟨_,x1⟩,g4⟩:=b.o.res.row.at (i:=1) A7;have rz:=b.o.res.lt;go_wp2
   have hR:=NU wr (w.heap.size+1) 0 [.a cost,.slice O l.length P] (b.o.res.row.there (o:=0) (m:=2) (NQ _));have f5:=b.o.res.same (o:=0) (.a cost);have f6:=(b.o.res.set (o:=0) (.a cost)).same (o:=1) (.slice O l.length P);have Y:=f5.trans f6;exact X_ [.a cost,.slice O l.length P] _ results193 rfl hR underlying73 rfl Tryz.iM rfl ⟨_,C,rfl,aU b.o.own Y A8,b.o.pack.same Y A8 A8,(b.o.kept.setCell A9 _).setCell A9 _⟩
theorem Tryz.AV :(prog.info? 176).map (·.size)=some 8:=C9
def StW(w:Pv)(v:Pw)(L:List Xj):Prop:=
 ∃a cap,v= .slice a L.length cap/\L.length<=cap/\∀i,i<L.length->∃b o cur fr cs,a=some ⟨b,o,none⟩/\w.heap[b]? =some (Obj.cells cur 176 fr)/\w.rangeAt b (o+i*8) cs/\lY w 9 231 cs (L.getD i Xj.zero)/\lh cs
theorem StW.same(h:StW w v L)(k:aC u w w')(i:176≠u)(l:9≠u)(h2:231≠u):StW w' v L:=by
 obtain⟨a,m,n,p,g⟩:=h;refine⟨a,m,n,p,λq r=>?_⟩;obtain⟨b,o,c,d,s,t,e,x,y,z⟩:=g q r;have f:=k b c _ d i e;exact⟨b,o,c,d,s,t,f,λj A B=>by rw[Od (w:=w) (f.trans e.symm)];exact x j A B,y.same k l h2,z⟩
theorem qV{base g:Nat}(h:w.ownsRow base 176 8 (.b g n cap) n xs)(i:Nat):w.rangeAt g (0+i*8) (lN xs i):=by
 intro j u a;unfold lN at a;have d:j<8:=by have:=(NW.1 a).1;rw[Oo] at this;omega
 rw[List.getElem?_take,Pe d,List.getElem?_drop] at a;have:=h.cells (g:=g) rfl _ _ a;rw[OI] at this;rw[Nat.add_assoc];exact this
theorem Lr{i:Nat}{u:Pw}(h:u∈lN xs i):u∈xs:=List.mem_of_mem_drop (List.mem_of_mem_take h)
theorem StW.gN{base:Nat}(h:w.ownsRow base 176 8 v L.length xs)(b:fG w 9 231 xs L)(c:lh xs):StW w v L:=by
 rcases h.2 with⟨rfl,d⟩|⟨g,e,f,rfl,p,j,k,_,_,_⟩
 .exact⟨none,0,by rw[d],A7,λi a=>A7⟩
 .exact⟨_,e,rfl,k,λi a=>⟨g,0,f,_,_,rfl,j,qV h i,b.2 i a,λn l m=>c n l (Lr m)⟩⟩
theorem eQ.oP{base:Nat}(h:eQ w base xs l):lh xs:=by
 intro n c a;obtain⟨j,b,d⟩:=Oc a;have f:=h.len;have e:j / 8<l.length:=A7;refine (h.each (j / 8) e).oP n c ?_;rw[<-d];unfold lN;refine Oe (i:=j % 8) ?_;rw[List.getElem?_take,Pe A7,List.getElem?_drop,show j / 8*8+j % 8=j by omega,NV b]
def Mk(M:Nat)(w w':Pv)(rb:Nat)(a:Pt)(cap:Nat)(bs:List UInt8)(p t:Nat)(e:Ending):Prop:=
 ∃(cost:Int) (v:Pw) (L:List Xj) (p':Nat),e= .returned (.agg #[.a cost,v])/\p<=p'/\p'<=p+t/\L.length<=21/\(-1000<=cost/\cost<=1000)/\(∀s∈L,s.TinyN M)/\StW w' v L/\Rd w' rb a cap bs p'/\Xk rb (rb+1) w w'
theorem lL{base size:Nat}{e:TypeId}(h:w.ownsRow base e size v n xs)(a:∀b,v.ownBlock=some b->w'.heap[b]? =w.heap[b]?):w'.ownsRow base e size v n xs:=by
 refine⟨h.1, ?_⟩;rcases h.2 with c|⟨g,d,f,rfl,i,j,rest⟩
 .exact .inl c
 .exact .inr ⟨g,d,f,rfl,i,(a g rfl).trans j,rest⟩
def Oth(w:Pv)(base:Nat)(va vc:Pw)(cs:List Pw)(t:Xj):Prop:=iV w base cs t/\(∀b,yl cs=some b->va.ownBlock≠some b)/\∀b,sW cs=some b->vc.ownBlock≠some b
variable {va vc : Pw}
theorem Oth.same{base:Nat}{t:Xj}(h:Oth w base va vc cs t)(k:aC u w w')(b:9≠u)(h2:231≠u):Oth w' base va vc cs t:=⟨h.1.same k b h2,h.2⟩
theorem Oth.Lf{base:Nat}{t:Xj}(h:Oth w1 base va vc cs t)(i:w1.ownsRow base 9 1 va n xs)(c:w1.grownBy w2 va.ownBlock)(j:v'.ownBlock=va.ownBlock\/v'.ownBlock=some w1.heap.size):Oth w2 base v' vc cs t:=by
 have d:=h.1.En;obtain⟨⟨k,l,m,p,rfl,q,r⟩,f,s⟩:=h;refine⟨⟨k,l,m,p,rfl,lL q (λb a=>c.block b (d.1 b a).2 (λe=>f b a e.symm)),aU r (aC.aI i c) A8⟩,λb a=>?_,s⟩;rcases j with e | e
 .rw[e];exact f b a
 .rw[e];intro v;have:=(d.1 b a).2;simp only[OE] at v;omega
theorem Oth.IZ{base:Nat}{t:Xj}(h:Oth w1 base va vc cs t)(i:w1.ownsRow base 231 2 vc n xs)(c:w1.grownBy w2 vc.ownBlock)(j:v'.ownBlock=vc.ownBlock\/v'.ownBlock=some w1.heap.size):Oth w2 base va v' cs t:=by
 have d:=h.1.En;obtain⟨⟨k,l,m,p,rfl,q,r⟩,s,f⟩:=h;refine⟨⟨k,l,m,p,rfl,aU q (aC.aI i c) A8,lL r (λb a=>c.block b (d.2 b a).2 (λe=>f b a e.symm))⟩,s,λb a=>?_⟩;rcases j with e | e
 .rw[e];exact f b a
 .rw[e];intro v;have:=(d.2 b a).2;simp only[OE] at v;omega
structure eO (M:Nat) (w wr:Pv) (rb ob sb:Nat) (a:Pt) (cap:Nat) (bs:List UInt8) (p:Nat) (cost:Int) (v:Pw) (L:List Xj) (xs:List Pw) (k:Nat) (va vc:Pw) (s:Xj):Prop where
 st:gG M w wr rb sb a cap bs p va vc s
 obl:w.heap.size<=ob
 row:aB wr ob 73 2
 c0:wr.cell? ⟨ob,0,none⟩=some (.a cost)
 c1:wr.cell? ⟨ob,1,none⟩=some v
 own:wr.ownsRow w.heap.size 176 8 v L.length xs
 sbn:v.ownBlock≠some sb
 len:xs.length=L.length*8
 kl:k<L.length
 oth:∀i,i<L.length->i≠k->Oth wr w.heap.size va vc (lN xs i) (L.getD i Xj.zero)
 tiny:∀s∈L,s.TinyN M
variable {t : TypeId}
theorem aB.ji{b:Nat}(h:aB w b t n)(k:aC u w w')(e:t≠u):aB w' b t n/\∀o,w'.cell? ⟨b,o,none⟩=w.cell? ⟨b,o,none⟩:=by
 obtain⟨a,c,f⟩:=h;have d:=k _ a _ _ e c;exact⟨⟨a,d,f⟩,λo=>Od (w:=w) (d.trans c.symm)⟩
variable {M k ob sb : Nat}
theorem eO.drawn{p':Nat}{cost:Int}(h:eO M w wr rb ob sb a cap bs p cost v L xs k va vc s)(e:Rd w' rb a cap bs p')(d:Xk rb (rb+1) wr w'):eO M w w' rb ob sb a cap bs p' cost v L xs k va vc s:=by
 have b:=d.sameKind h.st.rd;have c:=h.row.ji b A8;exact⟨h.st.drawn e d,h.obl,c.1,(c.2 0).trans h.c0,(c.2 1).trans h.c1,aU h.own b A8,h.sbn,h.len,h.kl,λi f j=>(h.oth i f j).same b A8 A8,h.tiny⟩
theorem eO.kept{cost:Int}(h:eO M w wr rb ob sb a cap bs p cost v L xs k va vc s)(c:K_ wr w'):eO M w w' rb ob sb a cap bs p cost v L xs k va vc s:=h.drawn (h.st.rd.kept c) (.au c)
theorem eO.field{cost:Int}{c:Xj}(h:eO M w wr rb ob sb a cap bs p cost v L xs k va vc s){o:Nat}{x:Pw}(f:dD (wr.setCell ⟨sb,o,none⟩ x) sb va vc c)(i:c.asks=s.asks)(j:c.cases=s.cases)(l:c.TinyN M):eO M w (wr.setCell ⟨sb,o,none⟩ x) rb ob sb a cap bs p cost v L xs k va vc c:=by
 have e:=h.st.box.row.same (o:=o) x;have d:=h.row.ji e A8;exact⟨h.st.field f i j l,h.obl,d.1,(d.2 0).trans h.c0,(d.2 1).trans h.c1,lL h.own (λb m=>Below.heap_setCell _ _ _ _ (λn=>h.sbn (by rw[m,n]))),h.sbn,h.len,h.kl,λq r t=>(h.oth q r t).same e A8 A8,h.tiny⟩
theorem eO.qI{cost:Int}{x:Ps}(h:eO M w wr rb ob sb a cap bs p cost v L xs k va vc s)(j:K_ wr w1)
 (m:w2.ownsRow w.heap.size 9 1 v' (s.asks.length+1) (s.asks.map Value.string++ [.string x])) (d:w1.grownBy w2 va.ownBlock) (n:v'.ownBlock=va.ownBlock\/v'.ownBlock=some w1.heap.size) (q:s.asks.length+1<=M) (r:x.size<=300):eO M w (w2.setCell ⟨sb,0,none⟩ v') rb ob sb a cap bs p cost v L xs k v' vc {s with asks:=s.asks++ [x]}:=by
 have c:=h.kept j;have e:aC 9 w1 w2:=aC.aI c.st.asks d;have t:=c.st.box.same e A8;have l:=t.row.same (o:=0) v';have f:=c.row.ji e A8;have i:=f.1.ji l A8;exact⟨h.st.qI j m d q r,h.obl,i.1,(i.2 0).trans ((f.2 0).trans c.c0),(i.2 1).trans ((f.2 1).trans c.c1),lL (aU c.own e A8) (λb y=>Below.heap_setCell _ _ _ _ (λz=>h.sbn (by rw[y,z]))),h.sbn,h.len,h.kl,
  λA B C=>((c.oth A B C).Lf c.st.asks d n).same l A8 A8,h.tiny⟩
theorem eO.uh{cost:Int}{x:bS}(h:eO M w wr rb ob sb a cap bs p cost v L xs k va vc s)(j:K_ wr w1)
 (m:w2.ownsRow w.heap.size 231 2 v' (s.cases.length+1) (bA s.cases++x.cells)) (d:w1.grownBy w2 vc.ownBlock) (n:v'.ownBlock=vc.ownBlock\/v'.ownBlock=some w1.heap.size) (q:s.cases.length+1<=M) (r:x.Tiny):eO M w (w2.setCell ⟨sb,2,none⟩ v') rb ob sb a cap bs p cost v L xs k va v' {s with cases:=s.cases++ [x]}:=by
 have c:=h.kept j;have e:aC 231 w1 w2:=aC.aI c.st.cases d;have t:=c.st.box.same e A8;have l:=t.row.same (o:=2) v';have f:=c.row.ji e A8;have i:=f.1.ji l A8;exact⟨h.st.uh j m d q r,h.obl,i.1,(i.2 0).trans ((f.2 0).trans c.c0),(i.2 1).trans ((f.2 1).trans c.c1),lL (aU c.own e A8) (λb y=>Below.heap_setCell _ _ _ _ (λz=>h.sbn (by rw[y,z]))),h.sbn,h.len,h.kl,
  λA B C=>((c.oth A B C).IZ c.st.cases d n).same l A8 A8,h.tiny⟩
theorem eO.cost{cost x:Int}(h:eO M w wr rb ob sb a cap bs p cost v L xs k va vc s):eO M w (wr.setCell ⟨ob,0,none⟩ (.a x)) rb ob sb a cap bs p x v L xs k va vc s:=by
 have b:=h.row.same (o:=0) (.a x);have c:Below w.heap.size wr (wr.setCell ⟨ob,0,none⟩ (.a x)):=(Below.refl _ _).setCell h.obl _;obtain⟨l,d⟩:=h.st.rd0;have e:gG M w (wr.setCell ⟨ob,0,none⟩ (.a x)) rb sb a cap bs p va vc s:=⟨h.st.rd.below d c h.st.kb.size,h.st.rd0,h.st.sbl,h.st.kb.below c,h.st.box.same b A8,aU h.st.asks b A8,aU h.st.cases b A8,h.st.tiny⟩;exact⟨e,h.obl,h.row.set _,bu h.row.row A7 _,(Xx A7 _).trans h.c1,aU h.own b A8,h.sbn,h.len,h.kl,λi f j=>(h.oth i f j).same b A8 A8,h.tiny⟩
theorem aB.setCells{g:Nat}:∀(vs:List Pw) (o:Nat) {w:Pv},aB w g t n->aB (w.setCells g o vs) g t n/\aC t w (w.setCells g o vs)
 | [],_,_,h=>⟨h,aC.refl _ _⟩
 | v :: r,o,_,h=>by
  rw[World.setCells];have:=aB.setCells r (o+1) (h.set (o:=o) v);exact⟨this.1,(h.same (o:=o) v).trans this.2⟩
theorem Below.setCells'{B g:Nat}(c:B<=g):∀(vs:List Pw) (o:Nat) {a w:Pv},Below B a w->Below B a (w.setCells g o vs)
 | [],_,_,_,h=>h
 | v :: r,o,_,_,h=>by
  rw[World.setCells];exact Below.setCells' c r (o+1) (h.setCell (p:=⟨g,o,none⟩) c v)
structure uY (M:Nat) (w wr:Pv) (rb ob:Nat) (a:Pt) (cap:Nat) (bs:List UInt8) (p:Nat) (cost:Int) (v:Pw) (L:List Xj):Prop where
 rd:Rd wr rb a cap bs p
 kb:Xk rb (rb+1) w wr
 row:aB wr ob 73 2
 c0:wr.cell? ⟨ob,0,none⟩=some (.a cost)
 c1:wr.cell? ⟨ob,1,none⟩=some v
 stw:StW wr v L
 tiny:∀s∈L,s.TinyN M
theorem eO.store{cost:Int}{g j:Nat}{b c:Pt}{d e:Nat}(h:eO M w wr rb ob sb a cap bs p cost (.b g L.length j) L xs k (.slice b s.asks.length d) (.slice c s.cases.length e) s):
  uY M w (wr.setCells g (k*8) (s.cells b d c e)) rb ob a cap bs p cost (.b g L.length j) (L.set k s):=by
 have K:=h.kl;have N:=h.len;rcases h.own.2 with⟨f,_⟩|⟨O,P,z,f,A,B,C,_,D,_⟩
 .simp at f
 simp only[OG,OE,Po,and_true,true_and] at f;obtain⟨rfl,rfl⟩:=f;have t:aB wr g 176 (j*8):=⟨z,B,D⟩;have l:=aB.setCells (s.cells b d c e) (k*8) t;have m:=h.row.ji l.2 A8;have v:Below w.heap.size wr (wr.setCells g (k*8) (s.cells b d c e)):=Below.setCells' A _ _ (Below.refl _ _);obtain⟨Q,E⟩:=h.st.rd0;obtain⟨x,y,_⟩:=l.1;refine⟨h.st.rd.below E v h.st.kb.size,h.st.kb.below v,m.1,(m.2 0).trans h.c0,(m.2 1).trans h.c1,⟨some ⟨g,0,none⟩,j,by rw[OZ],by rw[OZ];exact C,λi n=>?_⟩,λF G=>?_⟩
 .rw[OZ] at n;by_cases f:i=k
  .subst f;refine⟨g,0,x,_,s.cells b d c e,rfl,y, ?_, ?_, ?_⟩
   .rw[Ow];exact NU wr g (i*8) (s.cells b d c e) (t.row.there (by show i*8+8<=j*8;omega))
   .have q:(L.set i s).getD i Xj.zero=s:=by simp[List.getD,n]
    rw[q];exact (iV.step ⟨b,d,c,e,rfl,h.st.asks,h.st.cases⟩).same l.2 A8 A8
   .exact iV.oP ⟨b,d,c,e,rfl,h.st.asks,h.st.cases⟩
  .have r:=(h.oth i n f).1;have H:(lN xs i).length=8:=by obtain⟨_,_,_,_,I,_⟩:=r;rw[I];rfl
   refine⟨g,0,x,_,lN xs i,rfl,y, ?_, ?_,r.oP⟩
   .refine Oh (qV h.own i) g (k*8) _ (.inr ?_);show 0+i*8+ (lN xs i).length<=k*8\/k*8+8<=0+i*8;rw[H];omega
   .have q:(L.set k s).getD i Xj.zero=L.getD i Xj.zero:=by simp[List.getD,Ne.symm f]
    rw[q];exact r.step.same l.2 A8 A8
 .rcases List.mem_or_eq_of_mem_set G with J|rfl
  .exact h.tiny F J
  .exact h.st.tiny
theorem uY.ends{b:Nat}{p' t:Nat}{cost:Int}{e:Ending}(h:uY M A0 wr rb ob a cap bs p' cost v L)(c:aB wr b 73 2)(d:w.heap.size<=b)(k0:K_ w A0){l:Nat}(m:Rd w rb a cap bs l)
 (n:e= .returned (.agg #[.a cost,v])) (q:p<=p') (h2:p'<=p+t) (r:L.length<=21) (s: -1000<=cost/\cost<=1000):Mk M w ((wr.setCell ⟨b,0,none⟩ (.a cost)).setCell ⟨b,1,none⟩ v) rb a cap bs p t e:=by
 have x:=c.same (o:=0) (.a cost);have y:=(c.set (o:=0) (.a cost)).same (o:=1) v;have z:=x.trans y;have f:Below w.heap.size wr ((wr.setCell ⟨b,0,none⟩ (.a cost)).setCell ⟨b,1,none⟩ v):=((Below.refl _ _).setCell (p:=⟨b,0,none⟩) d _).setCell (p:=⟨b,1,none⟩) d _;have i:Xk rb (rb+1) w wr:=⟨h.kb.os.trans k0.os,h.kb.tape.trans k0.tape,h.kb.output.trans k0.output,NT k0.size h.kb.size,λj k A=>(h.kb.block j (NR k k0.size) A).trans (k0.block j k)⟩;exact⟨cost,v,L,p',n,q,h2,r,s,h.tiny,h.stw.same z A8 A8 A8,h.rd.below m f i.size,i.below f⟩
theorem eO.made{b:Pv}{x:Nat}{cost:Int}{d e:Pt}{f h:Nat}(D:Rd b rb a cap bs p)(E:Rd A0 rb a cap bs x)(y:Xk rb (rb+1) A0 b)(F:A0.heap.size<=ob)(m:aB b ob 73 2)
 (G:b.cell? ⟨ob,0,none⟩=some (.a cost)) (c1:b.cell? ⟨ob,1,none⟩=some v) (own:b.ownsRow A0.heap.size 176 8 v L.length xs) (i:eQ b A0.heap.size xs L) (j:k<L.length) (z:∀s∈L,s.TinyN M) (A:s=L.getD k Xj.zero) (n:lN xs k=s.cells d f e h):
  eO M A0 (b.alloc (.cells #[.slice d s.asks.length f,.a s.on,.slice e s.cases.length h,.a s.els,.a s.fall,.bool s.fin,.bool s.bad,.string s.give] 176)) rb ob b.heap.size a cap bs p cost v L xs k (.slice d s.asks.length f) (.slice e s.cases.length h) s:=by
 have c:K_ b (b.alloc (.cells #[.slice d s.asks.length f,.a s.on,.slice e s.cases.length h,.a s.els,.a s.fall,.bool s.fin,.bool s.bad,.string s.give] 176)):=ah _ _;have H:s.TinyN M:=z s (by rw[A];simp[List.getD,j]);have B:=i.each k j;rw[n,<-A] at B;obtain⟨K,N,O,P,l,I,J⟩:=B;simp only[Xj.cells,List.cons.injEq,OG,true_and,and_true] at l;obtain⟨⟨rfl,rfl⟩,rfl,rfl⟩:=l;refine⟨⟨D.kept c,⟨x,E⟩,y.size,y.gp c,dD.copied b s d f e h,ak I c,ak J c,H⟩,F,m.kept c,(c.cell m.lt).trans G,(c.cell m.lt).trans c1,ak own c,λl=>?_,i.len,j,λq r C=>⟨(i.each q r).same (u:=114) (aC.au c) A8 A8,λt w=>?_,λt w=>?_⟩,z⟩
 .have:=(own.lt _ l).2;omega
 .have:=(i.apart q k r j C).1 t w;rw[n] at this;exact this
 .have:=(i.apart q k r j C).2 t w;rw[n] at this;exact this
theorem uY.made{cost:Int}(c:Rd wr rb a cap bs p)(d:Xk rb (rb+1) A0 wr)(e:aB wr ob 73 2)
 (f:wr.cell? ⟨ob,0,none⟩=some (.a cost)) (c1:wr.cell? ⟨ob,1,none⟩=some v) (own:wr.ownsRow A0.heap.size 176 8 v L.length xs) (b:eQ wr A0.heap.size xs L) (h:∀s∈L,s.TinyN M):uY M A0 wr rb ob a cap bs p cost v L:=
 ⟨c,d,e,f,c1,StW.gN own b.packed b.oP,h⟩
theorem wu(cs:List Int)(k:Xk rb (rb+1) (w.alloc (.cells (cs.map (Value.int .i64)).toArray t)) w5)(d:rb<w.heap.size)(q:Nat)(a:q<cs.length)(b:∀c∈cs, -1000<=c/\c<=1000):∃c,w5.cell? ⟨w.heap.size,q,none⟩=some (.a c)/\ -1000<=c/\c<=1000:=by
 refine⟨cs[q], ?_,b _ (Oa a)⟩;rw[k.cell A9 A7,World.cell?_alloc_mark];simp[a]
theorem in64_wrap64(x:Int):In64 (wrap64 x):=by
 unfold In64 wrap64;omega
theorem wh(w:Pv)(s:Ps)(m:Int)(n:Nat)(a:m= (n:Int))(b:n<=1000)(c:s.size<=100):
  Calls prog 163 #[.string s,.a m] w λe w'=>(∃t:Ps,e= .returned (.string t)/\t.size<=n*s.size)/\w'=w:=by
 rw[a];exact Dz w s n b c
theorem yh(w:Pv)(t:TypeId)(cs:List Int)(q:Nat)(a:q<cs.length)(b:∀c∈cs, -1000<=c/\c<=1000):∃c,(w.alloc (.cells (cs.map (Value.int .i64)).toArray t)).cell? ⟨w.heap.size,q,none⟩=some (.a c)/\ -1000<=c/\c<=1000:=by
 refine⟨cs[q], ?_,b _ (Oa a)⟩;rw[World.cell?_alloc_mark];simp[a]
theorem xB{g H:Nat}(h:v.ownBlock=some g\/g=H):(Value.slice (some ⟨g,0,none⟩) n cap).ownBlock=v.ownBlock\/(Value.slice (some ⟨g,0,none⟩) n cap).ownBlock=some H:=by
 rcases h with h|rfl
 .exact .inl h.symm
 .exact .inr rfl
theorem Bh(cs:List Ps)(k:Xk rb (rb+1) (w.alloc (.cells (cs.map Value.string).toArray t)) w5)(d:rb<w.heap.size)(q:Nat)(a:q<cs.length)(b:∀c∈cs,c.size<=300):∃c,w5.cell? ⟨w.heap.size,q,none⟩=some (.string c)/\c.size<=300:=by
 refine⟨cs[q], ?_,b _ (Oa a)⟩;rw[k.cell A9 A7,World.cell?_alloc_mark];simp[a]
theorem Db(w:Pv)(t:TypeId)(cs:List Ps)(q:Nat)(a:q<cs.length)(b:∀c∈cs,c.size<=300):∃c,(w.alloc (.cells (cs.map Value.string).toArray t)).cell? ⟨w.heap.size,q,none⟩=some (.string c)/\c.size<=300:=by
 refine⟨cs[q], ?_,b _ (Oa a)⟩;rw[World.cell?_alloc_mark];simp[a]
theorem Ls(cs:List Int)(k:Xk rb (rb+1) (w.alloc (.cells (cs.map (Value.int .i64)).toArray t)) w5)(b:rb<w.heap.size)(q:Nat)(a:q<cs.length):∃c∈cs,w5.cell? ⟨w.heap.size,q,none⟩=some (.a c):=by
 refine⟨cs[q],Oa a, ?_⟩;rw[k.cell A9 A7,World.cell?_alloc_mark];simp[a]
structure OSt (W wr:Pv) (rb:Nat) (a:Pt) (cap:Nat) (bs:List UInt8) (p:Nat) (v:Pw) (l:List Ps):Prop where
 rd:Rd wr rb a cap bs p
 rd0:∃p0,Rd W rb a cap bs p0
 kb:Xk rb (rb+1) W wr
 own:wr.ownsRow W.heap.size 9 1 v l.length (l.map Value.string)
 sz:∀x∈l,x.size<=300
section
variable {W wr w' : Pv} {rb : Nat} {a : Pt} {cap : Nat} {bs : List UInt8} {p p' : Nat} {v : Pw} {l : List Ps}
theorem OSt.drawn(h:OSt W wr rb a cap bs p v l)(c:Rd w' rb a cap bs p')(k:Xk rb (rb+1) wr w'):OSt W w' rb a cap bs p' v l:=
 ⟨c,h.rd0,h.kb.trans k,aU h.own (k.sameKind h.rd) A8,h.sz⟩
theorem OSt.kept(h:OSt W wr rb a cap bs p v l)(k:K_ wr w'):OSt W w' rb a cap bs p v l:=h.drawn (h.rd.kept k) (.au k)
theorem OSt.push{x:Ps}(h:OSt W wr rb a cap bs p v l)(e:K_ wr w1)(f:w2.ownsRow W.heap.size 9 1 v' (l.length+1) (l.map Value.string++ [.string x]))(i:w1.grownBy w2 v.ownBlock)(j:x.size<=300):OSt W w2 rb a cap bs p v' (l++ [x]):=by
 have b:=h.kept e;have d:Below W.heap.size w1 w2:=(Below.refl _ _).grown i b.kb.size (λk m=>(b.own.lt k m).1);obtain⟨q,n⟩:=h.rd0;refine⟨b.rd.below n d b.kb.size,h.rd0,b.kb.below d,by simpa using f,λy c=>?_⟩;simp only[N_,NZ] at c;rcases c with c | rfl
 .exact h.sz y c
 .exact j
theorem OSt.made{b:Nat}(d:Rd W rb a cap bs b)(h:Rd wr rb a cap bs p)(k:Xk rb (rb+1) W wr):OSt W (wr.alloc (.cells #[] 9)) rb a cap bs p (.b wr.heap.size 0 0) []:=by
 have c:K_ wr (wr.alloc (.cells #[] 9)):=ah _ _;exact⟨h.kept c,⟨b,d⟩,k.gp c,gQ (Ov wr #[] 0 (NQ _) (NS _) rfl) k.size,λx f=>by simp at f⟩
end
section
variable {W wr w' : Pv} {rb : Nat} {a : Pt} {cap : Nat} {bs : List UInt8} {p p' : Nat} {v : Pw} {l : List Ps}
theorem fA.take{a:Pt}{l:List Ps}(h:fA w t a l)(n:Nat):fA w t a (l.take n):=by
 rcases h with rfl|⟨b,c,d,e,f,j⟩
 .exact .inl A9
 .refine .inr ⟨b,c,d,e,f,λi k=>?_⟩;rw[Oo] at k;rw[j i A7];simp[List.getD,(A7:i<n)]
end
def oD(w:Pv)(a:Pt)(l:List Ps):Prop:=
 l=[]\/∃b o cur fr,a=some ⟨b,o,none⟩/\w.heap[b]? =some (Obj.cells cur 9 fr)/\∀i,i<l.length->w.cell? ⟨b,o+i,none⟩=some (.string (l.getD i ByteArray.empty))
variable {a : Pt} {u : TypeId} {w w' : Pv}
theorem oD.same{l:List Ps}(h:oD w a l)(k:aC u w w')(i:9≠u):oD w' a l:=by
 rcases h with h|⟨b,o,c,d,j,e,m⟩
 .exact .inl h
 .have f:=k b c _ d i e;exact .inr ⟨b,o,c,d,j,f,λn p=>by rw[Od (w:=w) (f.trans e.symm)];exact m n p⟩
theorem oD.strs{l:List Ps}(h:oD w a l):Strs w a l:=by
 rcases h with rfl|⟨c,o,j,k,d,e,f⟩
 .intro i b;simp at b
 .exact λi b=>⟨c,o,d,aO e,f i b⟩
theorem fA.g{l:List Ps}(h:fA w 9 a l):oD w a l:=by
 rcases h with h|⟨b,c,d,e,f,i⟩
 .exact .inl h
 .exact .inr ⟨b,0,c,d,e,f,λj k=>by rw[Ow];exact i j k⟩
variable {n : Nat}
theorem oD.tail{b o:Nat}{l:List Ps}{c:Array Pw}{d:Nat×Nat}(e:w.heap[b]? =some (Obj.cells c 9 d))(f:∀i,i<l.length->w.cell? ⟨b,o+i,none⟩=some (.string (l.getD i ByteArray.empty)))(j:l.drop n≠[]->a=some ⟨b,o+n,none⟩):oD w a (l.drop n):=by
 by_cases h:l.drop n=[]
 .exact .inl h
 .refine .inr ⟨b,o+n,c,d,j h,e,λi k=>?_⟩;rw[List.length_drop] at k;have:=f (n+i) A7;rw[Nat.add_assoc,this];simp[List.getD,List.getElem?_drop]
def GStep(w:Pv)(cs:List Pw)(s:Xj):Prop:=∃aa ca ac cc,cs=s.cells aa ca ac cc/\oD w aa s.asks/\qp w 231 ac s.cases/\s.asks.length<=ca
variable {s : Xj}
theorem GStep.same{cs:List Pw}(h:GStep w cs s)(k:aC u w w')(a:9≠u)(h2:231≠u):GStep w' cs s:=by
 obtain⟨b,c,d,e,f,i,j,l⟩:=h;exact⟨b,c,d,e,f,i.same k a,j.same k h2,l⟩
theorem lY.g{cs:List Pw}(h:lY w 9 231 cs s):GStep w cs s:=by
 obtain⟨a,b,c,d,e,f,i,j⟩:=h;exact⟨a,b,c,d,e,f.g,i,j⟩
def dB(w:Pv)(v:Pw)(L:List Xj):Prop:=
 ∃a cap,v= .slice a L.length cap/\L.length<=cap/\∀i,i<L.length->∃b o cur fr cs,a=some ⟨b,o,none⟩/\w.heap[b]? =some (Obj.cells cur 176 fr)/\w.rangeAt b (o+i*8) cs/\GStep w cs (L.getD i Xj.zero)/\lh cs
variable {L : List Xj} {v : Pw}
theorem dB.same(h:dB w v L)(k:aC u w w')(i:176≠u)(l:9≠u)(h2:231≠u):dB w' v L:=by
 obtain⟨a,m,n,p,g⟩:=h;refine⟨a,m,n,p,λq r=>?_⟩;obtain⟨b,o,c,d,s,t,e,x,y,z⟩:=g q r;have f:=k b c _ d i e;exact⟨b,o,c,d,s,t,f,λj A B=>by rw[Od (w:=w) (f.trans e.symm)];exact x j A B,y.same k l h2,z⟩
theorem StW.g(h:StW w v L):dB w v L:=by
 obtain⟨a,c,e,d,g⟩:=h;refine⟨a,c,e,d,λi f=>?_⟩;obtain⟨b,o,j,k,l,m,n,p,q,r⟩:=g i f;exact⟨b,o,j,k,l,m,n,p,q.g,r⟩
theorem dB.FJ(h:dB w v L):∃a cap,v= .slice a L.length cap/\L.length<=cap/\kW w a L:=by
 obtain⟨a,cap,e,d,g⟩:=h;refine⟨a,cap,e,d,λi f=>?_⟩;obtain⟨j,o,x,y,z,k,l,m,⟨n,p,q,r,rfl,s,t,A⟩,c⟩:=g i f;refine⟨j,o,n,p,q,r,k,aO l,m,s.strs,t.cases,λb=>?_,λb=>?_⟩
 .subst b;exact c _ _ (by simp[Xj.cells])
 .subst b;exact c _ _ (by simp[Xj.cells])
variable {cap : Nat}
theorem dB.steps(h:dB w (.slice a n cap) L):Steps w a L:=by
 obtain⟨t,v,e,x,g⟩:=h;simp only[OG] at e;obtain⟨rfl,rfl,rfl⟩:=e;intro i c;obtain⟨b,o,y,z,A,d,f,j,⟨k,l,m,p,rfl,q,r,s⟩,B⟩:=g i c;exact⟨b,o,_,d,aO f,j,k,l,m,p,rfl,q.strs,r.cases,s⟩
theorem dB.slice(h:dB w v L):∃a cap,v= .slice a L.length cap:=let ⟨a,cap,e,_⟩:=h;⟨a,cap,e⟩
def dC(w:Pv)(xs:List Pw)(l:List Qq):Prop:=
 xs.length=l.length*3/\∀i,i<l.length->∃v,(xs.drop (i*3)).take 3=[.string (l.getD i Qq.zero).name,.a (l.getD i Qq.zero).cost,v]/\dB w v (l.getD i Qq.zero).steps
theorem dC.nil(w:Pv):dC w [] []:=⟨rfl,λi a=>by simp at a⟩
variable {xs : List Pw}
theorem dC.same{l:List Qq}(h:dC w xs l)(k:aC u w w')(a:176≠u)(b:9≠u)(h2:231≠u):dC w' xs l:=
 ⟨h.1,λi c=>by obtain⟨v,d,g⟩:=h.2 i c;exact⟨v,d,g.same k a b h2⟩⟩
theorem dC.snoc{l:List Qq}{d:Qq}(h:dC w xs l)(f:dB w v d.steps):dC w (xs++ [.string d.name,.a d.cost,v]) (l++ [d]):=by
 refine⟨by simp[h.1];omega,λi c=>?_⟩;rw[OD] at c;simp only[OH,List.length_nil] at c;by_cases e:i<l.length
 .have a:(l++ [d]).getD i Qq.zero=l.getD i Qq.zero:=by simp[List.getD,OU e]
  have b:((xs++ [.string d.name,.a d.cost,v]).drop (i*3)).take 3= (xs.drop (i*3)).take 3:=by
   rw[List.drop_append_of_le_length (by rw[h.1];omega),List.take_append_of_le_length (by rw[List.length_drop,h.1];omega)]
  rw[a,b];exact h.2 i e
 .obtain rfl:i=l.length:=A7;have a:(l++ [d]).getD l.length Qq.zero=d:=G9;have b:((xs++ [.string d.name,.a d.cost,v]).drop (l.length*3)).take 3=[.string d.name,.a d.cost,v]:=by
   rw[<-h.1,List.drop_left]
   rfl
  rw[a,b];exact⟨v,rfl,f⟩
def uA(w:Pv)(a:Pt)(l:List Qq):Prop:=
 ∀i,i<l.length->∃b o sa sc,a=some ⟨b,o,none⟩/\b<w.heap.size/\w.rangeAt b (o+i*3) ((l.getD i Qq.zero).cells sa sc)/\kW w sa (l.getD i Qq.zero).steps
theorem uA.kept{l:List Qq}(h:uA w a l)(k:K_ w w'):uA w' a l:=by
 intro i c;obtain⟨d,o,e,f,j,b,m,n⟩:=h i c;exact⟨d,o,e,f,j,NR b k.size,k.range b m,n.kept k⟩
def bM(w:Pv)(v:Pw)(l:List Qq):Prop:=
 ∃a cap,v= .slice a l.length cap/\l.length<=cap/\((a=none->cap=0)/\∀ad,a=some ad->ad.spot=none)/\∀i,i<l.length->∃b o cur fr u,a=some ⟨b,o,none⟩/\w.heap[b]? =some (Obj.cells cur 88 fr)/\
  w.rangeAt b (o+i*3) [.string (l.getD i Qq.zero).name,.a (l.getD i Qq.zero).cost,u]/\dB w u (l.getD i Qq.zero).steps
theorem bM.same{l:List Qq}(h:bM w v l)(k:aC u w w')(i:88≠u)(j:176≠u)(m:9≠u)(h2:231≠u):bM w' v l:=by
 obtain⟨a,n,p,q,r,g⟩:=h;refine⟨a,n,p,q,r,λs t=>?_⟩;obtain⟨b,o,c,d,x,y,e,z,A⟩:=g s t;have f:=k b c _ d i e;exact⟨b,o,c,d,x,y,f,λB C D=>by rw[Od (w:=w) (f.trans e.symm)];exact z B C D,A.same k j m h2⟩
theorem bM.kept{l:List Qq}(h:bM w v l)(k:K_ w w'):bM w' v l:=h.same (u:=25) (.au k) A8 A8 A8 A8
theorem bM.slice{l:List Qq}(h:bM w v l):∃a cap,v= .slice a l.length cap/\l.length<=cap/\((a=none->cap=0)/\∀ad,a=some ad->ad.spot=none):=let ⟨a,cap,e,h1,h2,_⟩:=h;⟨a,cap,e,h1,h2⟩
theorem bM.Lg{l:List Qq}(h:bM w (.slice a n cap) l):uA w a l:=by
 obtain⟨r,s,e,t,v,g⟩:=h;simp only[OG] at e;obtain⟨rfl,rfl,rfl⟩:=e;intro i c;obtain⟨b,o,x,y,u,d,f,j,k⟩:=g i c;obtain⟨m,p,rfl,_,q⟩:=k.FJ;exact⟨b,o,m,p,d,aO f,j,q⟩
theorem bM.nodes{l:List Qq}(h:bM w (.slice a n cap) l):bN w a l:=by
 obtain⟨q,r,e,s,t,g⟩:=h;simp only[OG] at e;obtain⟨rfl,rfl,rfl⟩:=e;intro i d;obtain⟨b,o,v,x,u,f,j,k,c⟩:=g i d;obtain⟨m,p,rfl⟩:=c.slice;exact⟨b,o,_,f,aO j,k,m,p,rfl,c.steps⟩
theorem bM.gN{base:Nat}{l:List Qq}(a:w.ownsRow base 88 3 v l.length xs)(f:dC w xs l):bM w v l:=by
 rcases a.2 with⟨rfl,h⟩|⟨g,k,m,rfl,s,n,p,_,_,_⟩
 .exact⟨none,0,by rw[h],A7,⟨λ_=>rfl,λ_ e=>by cases e⟩,λi b=>A7⟩
 .refine⟨_,k,rfl,p,⟨λe=>by simp at e,λ_ e=>by cases e;rfl⟩,λi b=>?_⟩;obtain⟨u,e,q⟩:=f.2 i b;refine⟨g,0,m,_,u,rfl,n,λj x c=>?_,q⟩;have r:j<3:=by have:=(NW.1 c).1;simpa using this
  have d:((xs.drop (i*3)).take 3)[j]? =some x:=by rw[e];exact c
  rw[List.getElem?_take,Pe r,List.getElem?_drop] at d;have:=a.cells (g:=g) rfl _ _ d;rw[OI] at this;rw[Ow] at this⊢;exact this
theorem bM.nil(w:Pv):bM w J3 []:=⟨none,0,rfl,NQ _,⟨λ_=>rfl,λ_ e=>by cases e⟩,λi b=>by simp at b⟩
structure Qq.TinyN (m:Nat) (d:Qq):Prop where
 name:d.name.size<=300
 cost: -1000<=d.cost/\d.cost<=1000
 steps:d.steps.length<=21
 each:∀s∈d.steps,s.TinyN m
theorem Qq.TinyN.fits{m:Nat}{d:Qq}(h:d.TinyN m)(a:m<=1000):d.Fits:=by
 have c:=h.name;have e:=h.steps;exact⟨D5,n_ h.cost,D5,λs b=>(h.each s b).fits a⟩
theorem Qq.TinyN.mono{m:Nat}{d:Qq}(h:d.TinyN m)(b:m<=n):d.TinyN n:=⟨h.name,h.cost,h.steps,λs e=>(h.each s e).mono b⟩
def lV(lo:Nat)(v:Pw)(L:List Qq):Prop:=0<L.length->∀g n c,v= .slice (some g) n c->lo<=g.block
theorem lV.mono{lo a:Nat}{L:List Qq}(h:lV lo v L)(c:a<=lo):lV a v L:=λd g n f e=>NT c (h d g n f e)
theorem lV.gN{base:Nat}{L:List Qq}(h:w.ownsRow base 88 3 v n xs):lV base v L:=λ_ g n c e=>(h.lt g.block (by rw[e];rfl)).1
def jd(M N:Nat)(w w':Pv)(rb:Nat)(a:Pt)(cap:Nat)(bs:List UInt8)(p t:Nat)(e:Ending):Prop:=
 ∃(v:Pw) (L:List Qq) (p':Nat),e= .returned (.agg #[v])/\p<=p'/\p'<=p+t/\L.length<=N/\(∀d∈L,d.TinyN M)/\bM w' v L/\Rd w' rb a cap bs p'/\Xk rb (rb+1) w w'/\lV w.heap.size v L
theorem Tryz.nK :(prog.info? 88).map (λi=>(i.zero,i.size,i.bytes))=some (some (.agg #[.string ⟨#[]⟩,.a 0,J3]),3,48):=C9
theorem Tryz.g_ :(prog.info? 25).map (·.size)=some 1:=C9
structure gu (m:Nat) (w wr:Pv) (rb wb:Nat) (a:Pt) (cap:Nat) (bs:List UInt8) (p:Nat) (v:Pw) (L:List Qq) (xs:List Pw):Prop where
 rd:Rd wr rb a cap bs p
 rd0:∃p0,Rd w rb a cap bs p0
 wbl:w.heap.size<=wb
 kb:Xk rb (rb+1) w wr
 row:aB wr wb 25 1
 c0:wr.cell? ⟨wb,0,none⟩=some v
 own:wr.ownsRow w.heap.size 88 3 v L.length xs
 pack:dC wr xs L
 tiny:∀d∈L,d.TinyN m
variable {bs : List UInt8} {mN p rb wb : Nat} {wr : Pv}
theorem gu.rbl{L:List Qq}(h:gu mN w wr rb wb a cap bs p v L xs):rb<w.heap.size:=let ⟨_,h0⟩:=h.rd0;h0.row.lt
theorem gu.drawn{p':Nat}{L:List Qq}(h:gu mN w wr rb wb a cap bs p v L xs)(d:Rd w' rb a cap bs p')(k:Xk rb (rb+1) wr w'):gu mN w w' rb wb a cap bs p' v L xs:=by
 have c:=k.sameKind h.rd;have:=h.rbl;have:=h.wbl;exact⟨d,h.rd0,h.wbl,h.kb.trans k,h.row.but k A7,(k.cell h.row.lt A7).trans h.c0,aU h.own c A8,h.pack.same c A8 A8 A8,h.tiny⟩
theorem gu.kept{L:List Qq}(h:gu mN w wr rb wb a cap bs p v L xs)(k:K_ wr w'):gu mN w w' rb wb a cap bs p v L xs:=h.drawn (h.rd.kept k) (.au k)
variable {w1 : Pv}
theorem gu.made{b:Nat}(d:Rd w rb a cap bs b)(h:Rd w1 rb a cap bs p)(k:Xk rb (rb+1) w w1):
  gu mN w (w1.alloc (.cells #[J3] 25)) rb w1.heap.size a cap bs p J3 [] []:=by
 have e:=Xz w1 #[J3] 25;have c:K_ w1 (w1.alloc (.cells #[J3] 25)):=ah _ _;exact⟨h.kept c,⟨b,d⟩,k.size,k.gp c,aB.made w1 _ _,e 0 _ rfl,OO _ _ _ _,dC.nil _,λs f=>by simp at f⟩
variable {w2 : Pv}
theorem gu.fZ{L:List Qq}(h:gu mN w wr rb wb a cap bs p v L xs)(f:K_ wr w1)(i:w1.grownBy w2 v.ownBlock):w2.cell? ⟨wb,0,none⟩=some v/\aB w2 wb 25 1:=by
 have b:=h.kept f;have j:aC 88 w1 w2:=aC.aI b.own i;obtain⟨c,d,k⟩:=b.row;have e:=j wb c _ _ A8 d;exact⟨by rw[Od (w:=w1) (e.trans d.symm)];exact b.c0,c,e,k⟩
theorem gu.push{v' u:Pw}{L:List Qq}{d:Qq}(h:gu mN w wr rb wb a cap bs p v L xs)(j:K_ wr w1)(m:dB w1 u d.steps)(n:d.TinyN mN)
 (q:w2.ownsRow w.heap.size 88 3 v' (L.length+1) (xs++ [.string d.name,.a d.cost,u])) (e:w1.grownBy w2 v.ownBlock):gu mN w (w2.setCell ⟨wb,0,none⟩ v') rb wb a cap bs p v' (L++ [d]) (xs++ [.string d.name,.a d.cost,u]):=by
 have b:=h.kept j;have f:aC 88 w1 w2:=aC.aI b.own e;have i:aB w2 wb 25 1:=(h.fZ j e).2;have k:=i.same (o:=0) v';have l:Below w.heap.size w1 (w2.setCell ⟨wb,0,none⟩ v'):=((Below.refl _ _).grown e b.kb.size (λr f=>(b.own.lt r f).1)).setCell h.wbl v';obtain⟨t,s⟩:=h.rd0;refine⟨b.rd.below s l b.kb.size,h.rd0,h.wbl,b.kb.below l,i.set _,bu i.row A7 _, ?_, ?_,λy c=>?_⟩
 .have:=aU q k A8;simpa using this
 .exact ((b.pack.snoc m).same f A8 A8 A8).same k A8 A8 A8
 .simp only[N_,NZ] at c;rcases c with c|rfl
  .exact h.tiny y c
  .exact n
theorem gu.web{L:List Qq}(h:gu mN w wr rb wb a cap bs p v L xs):bM wr v L:=bM.gN h.own h.pack
theorem nZ(w:Pv)(n:Ps)(c:Int)(u:Pw):∀j x,([.string n,.a c,u]:List Pw)[j]? =some x->(w.alloc (.cells #[.string n,.a c,u] 88)).cell? ((⟨w.heap.size,0,none⟩:Addr).add j)=some x:=λj x a=>by
 rw[OI];exact Xz w #[.string n,.a c,u] 88 j x a
theorem oo(n:Ps)(c:Int)(a:Pt)(m k:Nat):∀u∈([.string n,.a c,.slice a m k]:List Pw),u.oneCell'=true:=λu b=>by
 simp only[OL,OM,or_false] at b;rcases b with rfl | rfl | rfl <;> rfl
theorem BD.g(h:BD w v L):dB w v L:=by
 obtain⟨base,e,b,c,d⟩:=h;exact (StW.gN b c d).g
variable {M : Nat}
theorem gu.ends{N:Nat}{w5:Pv}{p' t:Nat}{L:List Qq}{A0:Pv}{e:Ending}(h:gu M A0 w5 rb wb a cap bs p' v L xs){b:Nat}(j:aB w5 b 25 1)(k:w.heap.size<=b)(k0:K_ w A0){l:Nat}(m:Rd w rb a cap bs l)
 (n:e= .returned (.agg #[v])) (q:p<=p') (h2:p'<=p+t) (r:L.length<=N):jd M N w (w5.setCell ⟨b,0,none⟩ v) rb a cap bs p t e:=by
 have s:=j.same (o:=0) v;have c:Below w.heap.size w5 (w5.setCell ⟨b,0,none⟩ v):=(Below.refl _ _).setCell (p:=⟨b,0,none⟩) k _;have d:Xk rb (rb+1) w w5:=⟨h.kb.os.trans k0.os,h.kb.tape.trans k0.tape,h.kb.output.trans k0.output,NT k0.size h.kb.size,λi f x=>(h.kb.block i (NR f k0.size) x).trans (k0.block i f)⟩;exact⟨v,L,p',n,q,h2,r,h.tiny,h.web.same s A8 A8 A8 A8,h.rd.below m c d.size,d.below c,(lV.gN h.own).mono k0.size⟩
theorem xq(w:Pv)(rb:Nat)(a:Pt)(cap:Nat)(bs:List UInt8)(p i n:Nat)(hR:Rd w rb a cap bs p)(hp:p<=800000)(hi:i<=100000)(hn:n<=100000)(B:bs.length<=2000):
  Calls prog 161 #[.c rb,.a (i:Int),.a (n:Int)] w λe w'=>sF w w' rb a cap bs p 100 e:=by
 have k0:K_ w (w.alloc (.cells #[.a 0,J3] 73)):=ah _ _;have g8:Hid (Rd (w.alloc (.cells #[.a 0,J3] 73)) rb a cap bs p):=hR.kept k0;have g9:Hid (aB (w.alloc (.cells #[.a 0,J3] 73)) w.heap.size 73 2):=aB.made w _ _;have o6:=hR.row.lt;have l1:=Kz hR;go_enter func161,ntmps161
 go_wp2_with fail
 refine (aM _ rb a cap bs p _ 6 rfl g8.o A7 A7 B).mono ?_;rintro e w1 ⟨v1,rfl,l2,h0,h1⟩;have⟨h2,I⟩:=aH h0 h1;clear h0 h1 hR;have J:=Kz (ASt.made g8.o h2.o I.o (1+ (v1:Int)));go_wp2_with fail
 refine (aM _ rb a cap bs (p+1) _ 10 rfl J.o.rd A7 A7 B).mono ?_;rintro e C ⟨v2,rfl,l3,h3,h4⟩;have c:=Kz (J.o.drawn h3 h4);have r2:=c.o.row.row.at (i:=0) A7;obtain⟨⟨_,q0⟩,f0⟩:=r2;have l4:=c.o.row.lt;clear h3 h4;go_upto_if 20 with fail
 go_cut [7] from 21 to 21 (λs7 D=>ML (w.alloc (.cells #[.a 0,J3] 73)) w1.heap.size rb a cap bs p s7 D)
 case first=>
  by_cases R:v2=0
  .have e9:((v2:Int) == 0)=true:=by simp[R]
   go_wp2
   go_meet
   exact⟨20,rfl,A7,c.o.cost⟩
  .have e9:((v2:Int) == 0)=false:=by simpa using R
   go_wp2
   go_meet
   exact⟨_,rfl,A7,c.o⟩
 case rest=>
  obtain⟨cost,rfl,d4,m⟩:=hcut;have j:=Kz m;clear m J c h2 I l2 l3 q0 f0 l4;go_wp2_with fail
  refine (aM _ rb a cap bs (p+2) _ 4 rfl j.o.rd A7 A7 B).mono ?_;rintro e w4 ⟨v4,rfl,l5,a9,b0⟩;have z:=Kz (j.o.drawn a9 b0);clear a9 b0 j;go_upto_region 5 with fail
  go_cut [31] from 25 to 30 (λl6 D=>∃(E:Bool) (p':Nat),l6= .bool E/\p+3<=p'/\p'<=p+4/\ASt (w.alloc (.cells #[.a 0,J3] 73)) D rb w1.heap.size a cap bs p' cost J3 [] [])
  case first=>
   by_cases R:i=0
   .have e9:((i:Int) == 0)=true:=by simp[R]
    clear R;go_wp2_with fail
    refine (aM _ rb a cap bs (p+3) _ 3 rfl z.o.rd A7 A7 B).mono ?_;rintro e w5 ⟨v5,rfl,o7,h5,h6⟩;have h:=Kz (z.o.drawn h5 h6);clear h5 h6;go_wp2
    go_meet
    exact⟨_,p+4,rfl,A7,A7,h.o⟩
   .have e9:((i:Int) == 0)=false:=by simpa using R
    go_wp2
    go_meet
    exact⟨_,p+3,rfl,A7,A7,z.o⟩
  case rest=>
   obtain⟨E,p5,rfl,l7,l8,m⟩:=hcut;have h:=Kz m;clear m z;go_upto_if 31 with fail
   go_cut [8] from 25 to 30 (λs8 D=>NE (w.alloc (.cells #[.a 0,J3] 73)) w1.heap.size rb a cap bs p s8 D)
   case first=>
    cases E
    .go_wp2
     go_meet
     exact⟨v4,cost,p5,rfl,A7,d4,A7,A7,h.o⟩
    .go_wp2
     go_meet
     exact⟨0,cost,p5,rfl,A7,d4,A7,A7,h.o⟩
   case rest=>
    clear l7 l8 h d4 l5;obtain⟨S,cost,l9,rfl,o8,d4,m0,o9,m⟩:=hcut;have N:=Kz m;clear m;go_wp2
    go_loopg [9] S (λg x wr=>∃(k:Nat) (p':Nat) (v:Pw) (L:List Xj) (xs:List Pw),x= .a (k:Int)/\k+g=S/\L.length=k/\p<=p'/\p'<=p+4+20*k/\ASt (w.alloc (.cells #[.a 0,J3] 73)) wr rb w1.heap.size a cap bs p' cost v L xs)
    case atStart=>exact⟨0,l9,_,[],[],rfl,A7,rfl,m0,A7,N.o⟩
    case round=>
     clear N;obtain⟨k,p7,v,L,xs,rfl,hk,hL,p0,p1,m⟩:=hrel;obtain⟨t,rfl⟩:=ai wr;obtain⟨gO,rfl⟩:=ai gk;have⟨Z,f2⟩:=aH m hL;clear m hL;by_cases m1:(k:Int)<1+ (S:Int)-1
     .have f3:=Kz (SSt.made Z.o.rd (els:=(k:Int)+1) (fall:= -1) A7 A7);have zO:rb<t.heap.size:=Z.o.rd.row.lt;go_wp2_with fail
      refine (aM _ rb a cap bs p7 _ 4 rfl f3.o.rd A7 A7 B).mono ?_;rintro e w8 ⟨a5,rfl,hq,h7,h8⟩;have b1:=Kz (f3.o.drawn h7 h8);clear h7 h8;go_wp2
      go_loopg [11] a5 (λg x wr=>∃(O:Pw) (s:Xj) (p':Nat),x= .a (g:Int)/\g<=a5/\p<=p'/\p'+2*g<=p7+1+2*a5/\s.asks.length+g<=a5/\s.cases=[]/\SSt t wr rb t.heap.size a cap bs p' O J3 s)
      case atStart=>exact⟨_,_,p7+1,rfl,NQ _,A7,A7,A9,rfl,b1.o⟩
      case round=>
       clear f3 b1;obtain⟨O,s,p8,rfl,h9,i0,i1,d5,b2,m⟩:=hrel;have⟨q,a0⟩:=aH m b2;clear m b2;by_cases R:gk=0
       .have d6:¬(0:Int)<(gk:Int):=A7;obtain⟨P,Q,rfl⟩:=ay q.o.asks;obtain⟨wI,rfl⟩:=ai wr;have y0:=q.o.box.c0;have yz:=q.o.box.row.lt;have f6:s.asks.length<=20:=q.o.tiny.asks;obtain⟨H,hm⟩:=ai s.asks.length;rw[<-hm] at y0 d5 f6;have HM:=Kz hm;clear hm;go_upto_if 68 with fail
        go_cut [10,11] from 32 to 116 (λb3 _ D=>∃(y:Xj) (O:Pw) (p':Nat),b3= .c t.heap.size/\p<=p'/\p'<=p7+8/\y.cases=[]/\SSt t D rb t.heap.size a cap bs p' O J3 y)
        case first=>
         by_cases p2:(0:Int)<(H:Int)
         .go_wp2_with fail
          refine (pq _ rb a cap bs p8 H q.o.rd A7 A7 B).mono ?_;rintro e f ⟨v9,rfl,p3,b4,b5⟩;have c:=Kz (q.o.drawn b4 b5);have z2:=c.o.box.row.lt;obtain⟨⟨_,p4⟩,f1⟩:=c.o.box.cell (o:=1) A7;clear b4 b5;go_wp2
          go_meet
          exact⟨{s with on:=(v9:Int)},_,p8+1,rfl,A7,A7,a0.o,c.o.on (x:=(v9:Int)) A7⟩
         .go_wp2
          go_meet
          exact⟨s,_,p8,rfl,A7,A7,a0.o,q.o⟩
        case rest=>
         clear q a0 y0 yz d5 f6 HM i0 i1 R d6 h9;obtain⟨s,O,p9,rfl,m2,m3,b2,m⟩:=hcut;have⟨q,a0⟩:=aH m b2;clear m b2;go_wp2_with fail
         refine (aM _ rb a cap bs p9 _ 3 rfl q.o.rd A7 A7 B).mono ?_;rintro e p6 ⟨q2,rfl,q1,i2,i3⟩;have b1:=Kz (q.o.drawn i2 i3);clear i2 i3 q;go_wp2
         go_loopg [13] q2 (λg x wr=>∃(vc:Pw) (y:Xj) (p':Nat),x= .a (g:Int)/\g<=q2/\p<=p'/\p'+2*g<=p9+1+2*q2/\y.cases.length+g<=q2/\SSt t wr rb t.heap.size a cap bs p' O vc y)
         case atStart=>exact⟨_,s,p9+1,rfl,NQ _,A7,A7,by rw[a0.o];simp,b1.o⟩
         case round=>
          clear b1 a0;obtain⟨vc,y,a1,rfl,h9,q3,q5,d5,m⟩:=hrel;have q:=Kz m;clear m;by_cases R:gk=0
          .have d6:¬(0:Int)<(gk:Int):=A7;obtain⟨ac,cc,rfl⟩:=ay q.o.cases;obtain⟨wJ,rfl⟩:=ai wr;have q6:y.cases.length<=20:=q.o.tiny.cases;go_wp2_with fail
           refine (aM _ rb a cap bs a1 _ 3 rfl q.o.rd A7 A7 B).mono ?_;rintro e m4 ⟨b6,rfl,i4,b7,b8⟩;have c:=Kz (q.o.drawn b7 b8);have z2:=c.o.box.row.lt;obtain⟨⟨_,q4⟩,f4⟩:=c.o.box.cell (o:=4) A7;clear b7 b8 q;go_upto_if 103 with fail
           go_cut [10,13] from 32 to 116 (λb3 _ D=>∃(s'':Xj),b3= .c t.heap.size/\SSt t D rb t.heap.size a cap bs (a1+1) O (.slice ac y.cases.length cc) s'')
           case first=>
            by_cases d7:b6=0
            .have m5:((b6:Int) == 0)=true:=by simp[d7]
             clear d7;go_wp2
             go_meet
             exact⟨_,rfl,c.o.fall (x:=(k:Int)+1) A7⟩
            .have m5:((b6:Int) == 0)=false:=by simpa using d7
             clear d7;go_wp2
             go_meet
             exact⟨y,rfl,c.o⟩
           case rest=>
            clear c q4 f4 z2 i4;obtain⟨s3,rfl,m⟩:=hcut;have j:=Kz m;clear m;go_wp2_with fail
            refine (aM _ rb a cap bs (a1+1) _ 16 rfl j.o.rd A7 A7 B).mono ?_;rintro e m6 ⟨f7,rfl,m7,i5,i6⟩;have z:=Kz (j.o.drawn i5 i6);have z2:=z.o.box.row.lt;obtain⟨⟨_,q4⟩,f4⟩:=z.o.box.cell (o:=3) A7;clear i5 i6 j;go_upto_if 109 with fail
            go_cut [10] from 32 to 116 (λb3 D=>∃(s'':Xj),b3= .c t.heap.size/\SSt t D rb t.heap.size a cap bs (a1+2) O (.slice ac y.cases.length cc) s'')
            case first=>
             by_cases d8:f7=0
             .have i7:((f7:Int) == 0)=true:=by simp[d8]
              clear d8;go_wp2
              go_meet
              exact⟨_,rfl,z.o.els (x:=0) A7⟩
             .have i7:((f7:Int) == 0)=false:=by simpa using d8
              clear d8;go_wp2
              go_meet
              exact⟨s3,rfl,z.o⟩
            case rest=>
             clear z q4 f4 z2 m7;obtain⟨l,rfl,m⟩:=hcut;have h:=Kz m;clear m;obtain⟨d9,e0,rfl⟩:=ay Z.o.own;have HA:=Kz (Z.o.drawn h.o.rd h.o.kb);obtain⟨aa,ca,a6,a7,rfl,i8,hT⟩:=h.o.cells;rw[i8] at h;have HT:=Kz hT;clear hT i8;have c0:=h.o.box.c0;have q7:=h.o.box.c1;have q8:=h.o.box.c2;have q9:=h.o.box.c3;have r0:=h.o.box.c4;have c5:=h.o.box.c5;have r1:=h.o.box.c6;have c7:=h.o.box.c7;have cz:=h.o.box.row.lt;have r3:=HA.o.c1;have az:=HA.o.row.lt;have m8:L.length<=3:=by have:=f2.o;omega
             have T:K_ wc (wc.alloc (.cells #[.slice aa l.asks.length ca,.a l.on,.slice a6 l.cases.length a7,.a l.els,.a l.fall,.bool l.fin,.bool l.bad,.string l.give] 176)):=ah _ _;have I:=Kz T;have f8:=Kz (HA.o.kept T).own;have e1:=(HA.o.kept T).kb.size;have b9:∀A u,(l.cells aa ca a6 a7)[A]? =some u->(wc.alloc (.cells #[.slice aa l.asks.length ca,.a l.on,.slice a6 l.cases.length a7,.a l.els,.a l.fall,.bool l.fin,.bool l.bad,.string l.give] 176)).cell? ((⟨wc.heap.size,0,none⟩:Addr).add A)=some u:=λA u r=>by rw[OI];exact Xz wc #[.slice aa l.asks.length ca,.a l.on,.slice a6 l.cases.length a7,.a l.els,.a l.fall,.bool l.fin,.bool l.bad,.string l.give] 176 A u r
             have⟨m9,n0⟩:=aH b9 e1;obtain⟨ic,c1,c2,c3,c4⟩:=aS Tryz.kR;clear T b9 e1;go_wp2_with (at_builtin;refine wpList_append_own _ rfl (.tmp 112) (.tmp 114) 71 rfl (w.alloc (.cells #[.a 0,J3] 73)).heap.size 176 ic _ 8 96 underlying71 c1 c2 c3 c4 rfl A8 (.slice d9 L.length e0) L.length xs rfl f8.o ⟨wc.heap.size,0,none⟩ 1 1 (l.cells aa ca a6 a7) rfl rfl m9.o (jm l aa ca a6 a7) D5 A7 n0.o ?_;intro U C F G _;have a2:=HA.o.fZ I.o G;have z2:=a2.2.lt;obtain⟨⟨_,y2⟩,n1⟩:=a2.2.row.at (i:=1) A7;have f9:=Kz F;obtain⟨P,Q,rfl⟩:=ay F;have g0:=Kz G;clear F G a2)
             go_roundg (gO-1)
             case measure=>omega
             case rel=>exact⟨k+1,a1+2,_,L++ [l],_,C8,A7,by rw[OD,f2.o];rfl,A7,A7,HA.o.push I.o HT.o h.o.tiny (h.o.oP rfl rfl) f9.o g0.o⟩
          .have d6:(0:Int)<(gk:Int):=A7;obtain⟨ac,cc,rfl⟩:=ay q.o.cases;have r4:y.cases.length<=20:=q.o.tiny.cases;have J:=Kz (q.o.kept (bD wr));have y2:=J.o.box.c2;have r5:=Kz q.o;clear q;obtain⟨H,hm⟩:∃H:Nat,H=S-k:=⟨_,rfl⟩;have r6:H<=3:=A7;have e8:IntKind.i64.wrap ((k:Int)+1)= (k:Int)+1:=E8;have i7:IntKind.i64.wrap (1+ (S:Int)-(k:Int))= (H:Int)+1:=E8;have r7:IntKind.i64.wrap (H:Int)= (H:Int):=E8;clear hm;go_upto_region 22 with fail
           refine Qx.region C9 (λw'=>J4 w' t.heap.size 2 (.slice ac y.cases.length cc)) 20 y2 (λb=>?_);refine ae 0 b ?_;refine ae 1 b ?_;refine ae 2 b ?_;refine ae 7 b ?_;refine cB 8 (.a ((k:Int)+1)) b ?_ ?_
           .intro u r;try dsimp only at r
            go_simp
            try with_reducible rfl
           try simp only[upP]
           refine ae 9 b ?_;refine ae 10 b ?_;refine ae 11 b ?_;refine cB 12 (.a ((H:Int)+1)) b ?_ ?_
           .intro u r;try dsimp only at r
            go_simp
            try with_reducible rfl
           try simp only[upP]
           refine cB 13 (.a (H:Int)) b ?_ ?_
           .intro u r;try dsimp only at r
            go_simp
            try with_reducible rfl
           try simp only[upP]
           refine aF 3 (λK d=>?_);go_simp
           go_at_call 19
           refine (aM _ rb a cap bs a1 _ 3 rfl J.o.rd A7 A7 B).mono ?_;rintro e m4 ⟨b6,rfl,i4,b7,b8⟩;have c:=Kz (J.o.drawn b7 b8);clear b7 b8;dsimp only;refine af d (λ_=>c.o.box.c2) ?_;clear d K b;have b:=c.o.box.c2;refine aF 4 (λK d=>?_);go_simp
           go_at_call 191
           refine (uE _ b6 A7).mono ?_;rintro e m6 ⟨g1,rfl,ht,i9⟩;have j:=Kz (c.o.kept i9);clear i9;dsimp only;refine af d (λ_=>j.o.box.c2) ?_;clear d K b;have b:=j.o.box.c2;obtain⟨t1,j0⟩:∃t1:Ps,(⟨#[118]⟩:Ps)++g1=t1:=⟨_,rfl⟩;have n2:t1.size<=2:=by rw[<-j0,ByteArray.size_append];show 1+g1.size<=2;omega
           have f5:¬9223372036854775807<1+g1.size:=A7;refine cB 5 (.string t1) b ?_ ?_
           .intro u r;try dsimp only at r
            go_simp
            try with_reducible rfl
           try simp only[upP]
           obtain⟨tx,j1⟩:∃tx:Ps,t1++ (⟨#[40,41]⟩:Ps)=tx:=⟨_,rfl⟩;have n3:tx.size<=300:=by rw[<-j1,ByteArray.size_append];show t1.size+2<=300;omega
           have e2:¬9223372036854775807<t1.size+2:=A7;refine cB 6 (.string tx) b ?_ ?_
           .intro u r;try dsimp only at r
            go_simp
            try with_reducible rfl
           try simp only[upP]
           clear j0 j1 f5 e2 n2 ht;refine aF 14 (λK d=>?_);go_simp
           go_at_call 19
           refine (aM _ rb a cap bs (a1+1) _ H rfl j.o.rd A7 A7 B).mono ?_;rintro e e3 ⟨V,rfl,r8,j2,j3⟩;have z:=Kz (j.o.drawn j2 j3);clear j2 j3;dsimp only;refine af d (λ_=>z.o.box.c2) ?_;clear d K b;have b:=z.o.box.c2;have r9:IntKind.i64.wrap ((k:Int)+1+ (V:Int))= (k:Int)+1+ (V:Int):=E8;refine cB 15 (.a ((k:Int)+1+ (V:Int))) b ?_ ?_
           .intro u r;try dsimp only at r
            go_simp
            try with_reducible rfl
           try simp only[upP]
           refine ae 16 b ?_;refine aj 17 (λK d=>?_);go_simp
           have a3:K_ e3 (e3.alloc (.cells #[.string tx,.a ((k:Int)+1+ (V:Int))] 231)):=ah _ _;have h:=Kz (z.o.kept a3);have c6:=Kz a3;refine af d (λ_=>h.o.box.c2) ?_;clear d K b a3;obtain⟨ic,c1,c2,c3,c4⟩:=aS Tryz.qW;refine aj 18 (λK d=>?_);refine step_append_lies _ rfl (.tmp 82) (.tmp 98) 174 rfl t.heap.size 231 ic _ 2 24 underlying174 c1 c2 c3 c4 rfl A8 (.slice ac y.cases.length cc) y.cases.length (bA y.cases) D9 h.o.cases ⟨e3.heap.size,0,none⟩ 1 1 [.string tx,.a ((k:Int)+1+ (V:Int))] D9 rfl (λA u r=>by rw[OI];exact Xz e3 #[.string tx,.a ((k:Int)+1+ (V:Int))] 231 A u (by simpa using r)) (λu r=>by simp at r;rcases r with rfl | rfl <;> rfl) A7 D5 A7 h.o.kb.size _ rfl ?_;intro g e4 s0 c8 a4 g2 g3;have W:=Kz (z.o.Ch c6.o a4);have N:=Kz (z.o.uh (x:=⟨tx,(k:Int)+1+ (V:Int)⟩) c6.o c8 a4 A7 ⟨n3,by show -1000<=(k:Int)+1+ (V:Int);omega,by show (k:Int)+1+ (V:Int)<=1000;omega⟩);have z6:=W.o.row.lt;have y6:=W.o.c2;obtain⟨_,e2⟩:=W.o.cell (o:=2) A7;clear c8 a4 g2 g3;refine af d (λ_=>W.o.c2) ?_;clear d K;have b:=W.o.c2;refine ae 19 b ?_;refine aj 20 (λK d=>?_);go_simp
           refine af d (λg4=>Pg rfl g4) ?_;clear d K;refine aG ?_;go_wp2
           go_roundg (gk-1)
           case measure=>omega
           case rel=>exact⟨_,_,a1+2,C8,A7,A7,A7,by show (y.cases++ [_]).length+ (gk-1)<=q2;rw[OD];show y.cases.length+1+ (gk-1)<=q2;omega,N.o⟩
       .have d6:(0:Int)<(gk:Int):=A7;go_wp2_with fail
        refine (LC _ rb a cap bs p8 i n q.o.rd A7 hi hn B).mono ?_;rintro e f ⟨x,p9,rfl,hx,m2,m3,b4,b5⟩;have c:=Kz (q.o.drawn b4 b5);have y0:=c.o.box.c0;have yz:=c.o.box.row.lt;clear b4 b5 q;go_upto_region 15 with fail
        go_cut [58] from 43 to 57 (λn4 D=>∃E:Bool,n4= .bool E/\K_ f D)
        case first=>
         obtain⟨ia,a8,c9,d0,d1⟩:=aS Tryz.gM;have e5:(f.alloc (.cells #[] 9)).ownsRow f.heap.size 9 1 (.b f.heap.size 0 0) 0 []:=Ov f #[] 0 (NQ _) (NS _) rfl;have e6:=Kz e5;have kA:K_ f (f.alloc (.cells #[] 9)):=ah _ _;have d2:=Kz kA;have n5:s.asks.length<=20:=c.o.tiny.asks;clear e5 kA;have fin:∀(X C:Pv) (v1 U:Pw) (S:Nat) (j4:List Pw),K_ f X->X.ownsRow f.heap.size 9 1 v1 S j4->X.grownBy C v1.ownBlock->C.ownsRow f.heap.size 9 1 U (s.asks.length+1) ((s.asks++ [x]).map Value.string)->∃P Q,U= .slice P (s.asks.length+1) Q/\K_ f C/\Calls prog 66 #[.slice P ((s.asks.length+1:Nat):Nat) Q] C λe w'=>(∃E:Bool,e= .returned (.bool E))/\K_ C w':=by
          intro X C v1 U S j4 kA e5 hg hO;obtain⟨P,Q,e,_,hT⟩:=di hO;have g5:(s.asks++ [x]).length=s.asks.length+1:=A9;rw[g5] at e;refine⟨P,Q,e, ?_,Ed C P Q _ _ g5 (by rw[g5];omega) (λn6 hy=>?_) hT.strs⟩
          .exact Below.grown kA hg kA.size (λk hk=>(e5.lt k hk).1)
          .simp only[N_,NZ] at hy;rcases hy with hy|rfl
           .have:=c.o.tiny.eZ n6 hy;omega
           .omega
         have j5:=Kz fin;clear fin;rcases c.o.asks.2 with⟨ev,j6⟩|⟨g,cp,s1,ev,n7,j7,s2,_,_,_⟩
         .subst ev;have n8:Hid (s.asks=[]):=Pj j6;have j8:=Kz (ak e6.o ((K_.refl _).alloc (.cells #[.string x] 9)));have j9:=Kz (d2.o.alloc (.cells #[.string x] 9));have k1:∀A u,([.string x]:List Pw)[A]? =some u->((f.alloc (.cells #[] 9)).alloc (.cells #[.string x] 9)).cell? ((⟨f.heap.size+1,0,none⟩:Addr).add A)=some u:=by
           have:=lK (f.alloc (.cells #[] 9)) x;rw[OC] at this;exact this
          have n9:=Kz k1;have g6:f.heap.size<=((f.alloc (.cells #[] 9)).alloc (.cells #[.string x] 9)).heap.size:=j9.o.size;clear j6 k1 d5 n5;go_wp2_with (first | (at_builtin;refine wpList_append_own_none _ rfl (.tmp 51) (.tmp 53) 26 rfl f.heap.size 9 ia 1 underlying26 a8 (.b f.heap.size 0 0) 0 [] rfl e6.o rfl ?_) | (at_builtin;refine wpList_append_own _ rfl (.tmp 54) (.tmp 56) 26 rfl f.heap.size 9 ia _ 1 16 underlying26 a8 c9 d0 d1 rfl A8 (.b f.heap.size 0 0) 0 [] rfl j8.o ⟨f.heap.size+1,0,none⟩ 1 1 [.string x] rfl rfl n9.o (kY x) D5 A7 g6 ?_;intro U C F G _;obtain⟨P,Q,rfl,k2,hC⟩:=j5.o _ C _ U 0 [] j9.o j8.o G (by rw[n8.o];exact F);have HC:=Kz hC;have g7:=Kz k2;clear F G hC k2))
          refine HC.o.mono ?_;rintro e w3 ⟨⟨E,rfl⟩,k3⟩;go_wp2
          go_meet
          exact⟨E,rfl,g7.o.trans k3⟩
         .subst ev;have b9:∀A u,(s.asks.map Value.string)[A]? =some u->(f.alloc (.cells #[] 9)).cell? ((⟨g,0,none⟩:Addr).add A)=some u:=λA u r=>(ak c.o.asks d2.o).cells (g:=g) rfl A u r
          have o0:=Kz b9;have g6:f.heap.size<=(f.alloc (.cells #[] 9)).heap.size:=d2.o.size;have s4:=aO j7;clear b9 j7 n7;go_wp2_with (first | (at_builtin;refine wpList_append_own _ rfl (.tmp 51) (.tmp 53) 26 rfl f.heap.size 9 ia _ 1 16 underlying26 a8 c9 d0 d1 rfl A8 (.b f.heap.size 0 0) 0 [] rfl e6.o ⟨g,0,none⟩ s.asks.length cp (s.asks.map Value.string) rfl A9 o0.o (xJ _) D5 A7 g6 ?_;intro v1 X e7 k4 _;rw[Ow,List.nil_append] at e7;obtain⟨o1,o2,rfl⟩:=ay e7;have I:=Kz (Below.grown d2.o k4 d2.o.size (λk hk=>(e6.o.lt k hk).1));have k5:=Kz (ak e7 ((K_.refl X).alloc (.cells #[.string x] 9)));have o3:f.heap.size<=(X.alloc (.cells #[.string x] 9)).heap.size:=(K_.alloc (a:=f) I.o (.cells #[.string x] 9)).size;clear e7 k4) | (at_builtin;refine wpList_append_own _ rfl (.tmp 54) (.tmp 56) 26 rfl f.heap.size 9 ia _ 1 16 underlying26 a8 c9 d0 d1 rfl A8 (.slice o1 s.asks.length o2) s.asks.length (s.asks.map Value.string) rfl k5.o ⟨X.heap.size,0,none⟩ 1 1 [.string x] rfl rfl (lK X x) (kY x) D5 A7 o3 ?_;intro U C F G _;obtain⟨P,Q,rfl,k2,hC⟩:=j5.o _ C _ U _ _ (K_.alloc (a:=f) I.o (.cells #[.string x] 9)) k5.o G (by rw[Pi];exact F);have HC:=Kz hC;have g7:=Kz k2;clear F G hC k2))
          refine HC.o.mono ?_;rintro e w3 ⟨⟨E,rfl⟩,k3⟩;go_wp2
          go_meet
          exact⟨E,rfl,g7.o.trans k3⟩
        case rest=>
         obtain⟨E,rfl,k6⟩:=hcut;have j:=Kz (c.o.kept k6);clear c y0 yz k6;have y0:=j.o.box.c0;have yz:=j.o.box.row.lt;obtain⟨_,f0⟩:=j.o.box.cell (o:=0) A7;cases E
         .go_wp2
          go_roundg (gk-1)
          case measure=>omega
          case rel=>exact⟨O,s,p9,C8,A7,A7,A7,A7,a0.o,j.o⟩
         .obtain⟨ia,a8,c9,d0,d1⟩:=aS Tryz.gM;have T:K_ wc (wc.alloc (.cells #[.string x] 9)):=ah _ _;have I:=Kz T;have f8:=Kz (j.o.kept T).asks;have e1:t.heap.size<=(wc.alloc (.cells #[.string x] 9)).heap.size:=(j.o.kept T).kb.size;have f6:s.asks.length<=20:=j.o.tiny.asks;clear T;go_wp2_with (at_builtin;refine wpList_append_own _ rfl (.tmp 60) (.tmp 62) 26 rfl t.heap.size 9 ia _ 1 16 underlying26 a8 c9 d0 d1 rfl A8 O s.asks.length (s.asks.map Value.string) rfl f8.o ⟨wc.heap.size,0,none⟩ 1 1 [.string x] rfl rfl (lK wc x) (kY x) D5 A7 e1 ?_;intro U C F G _;have a2:=j.o.uS I.o G;have y2:=a2.c0;have z2:=a2.row.lt;obtain⟨_,n1⟩:=a2.cell (o:=0) A7;have f9:=Kz F;obtain⟨P,Q,rfl⟩:=ay F;have g0:=Kz G;clear F G a2)
          go_roundg (gk-1)
          case measure=>omega
          case rel=>exact⟨_,{s with asks:=s.asks++ [x]},p9,C8,A7,A7,A7,by show (s.asks++ [x]).length+ (gk-1)<=a5;rw[OD];show s.asks.length+1+ (gk-1)<=a5;omega,a0.o,j.o.qI I.o f9.o g0.o A7 A7⟩
     .have s5:k=S:=A7;clear m1;obtain⟨d9,e0,rfl⟩:=ay Z.o.own;have J:=Kz (Z.o.kept (bD t));have s6:Hid (aB t w.heap.size 73 2):=g9.o.but Z.o.kb A7;have y1:=J.o.c1;have m8:L.length<=3:=by have:=f2.o;omega
      have s9:=Kz Z.o;go_upto_region 28 with fail
      refine Qx.region C9 (λw'=>J4 w' w1.heap.size 1 (.slice d9 L.length e0)) 11 y1 (λb=>?_);refine ae 0 b ?_;refine ae 1 b ?_;refine ae 2 b ?_;refine ae 5 b ?_;refine aF 3 (λK d=>?_);go_simp
      go_at_call 19
      refine (aM _ rb a cap bs p7 _ 8 rfl J.o.rd A7 A7 B).mono ?_;rintro e w3 ⟨v3,rfl,o4,k7,k8⟩;have c:=Kz (J.o.drawn k7 k8);clear k7 k8;dsimp only;refine af d (λ_=>c.o.c1) ?_;clear d K b;have b:=c.o.c1;obtain⟨M,o5⟩:∃M:Bool,((v3:Int) == 0)=M:=⟨_,rfl⟩;refine cB 4 (.bool M) b ?_ ?_
      .intro u r;try dsimp only at r
       go_simp
       try with_reducible rfl
      try simp only[upP]
      clear o5 o4;refine aF 6 (λK d=>?_);go_simp
      go_at_call 192
      refine (JX _ rb a cap bs (p7+1) c.o.rd A7 B).mono ?_;rintro e w4 ⟨Y,p8,rfl,t0,i0,i1,a9,b0⟩;have j:=Kz (c.o.drawn a9 b0);clear a9 b0;dsimp only;refine af d (λ_=>j.o.c1) ?_;clear d K b;have b:=j.o.c1;refine ae 7 b ?_;refine aj 8 (λK d=>?_);go_simp
      have a3:K_ w4 (w4.alloc (.cells #[J3,.a 0,J3,.a 0,.a 0,.bool true,.bool M,.string Y] 176)):=ah _ _;have h:=Kz (j.o.kept a3);have c6:=Kz a3;refine af d (λ_=>h.o.c1) ?_;clear d K b a3;obtain⟨ic,c1,c2,c3,c4⟩:=aS Tryz.kR;refine aj 9 (λK d=>?_);refine step_append_lies _ rfl (.tmp 118) (.tmp 125) 71 rfl (w.alloc (.cells #[.a 0,J3] 73)).heap.size 176 ic _ 8 96 underlying71 c1 c2 c3 c4 rfl A8 (.slice d9 L.length e0) L.length xs D9 h.o.own ⟨w4.heap.size,0,none⟩ 1 1 [J3,.a 0,J3,.a 0,.a 0,.bool true,.bool M,.string Y] D9 rfl (λA u r=>by rw[OI];exact Xz w4 #[J3,.a 0,J3,.a 0,.a 0,.bool true,.bool M,.string Y] 176 A u (by simpa using r)) (jm ⟨[],0,[],0,0,true,M,Y⟩ none 0 none 0) A7 D5 A7 h.o.kb.size _ rfl ?_;intro g e4 w5 c8 a4 g2 g3;have W:=Kz (j.o.fZ c6.o a4);have k9:lY w4 9 231 [J3,.a 0,J3,.a 0,.a 0,.bool true,.bool M,.string Y] ⟨[],0,[],0,0,true,M,Y⟩:=⟨none,0,none,0,rfl,.inl rfl,.inl rfl,NQ _⟩;have l0:Xj.Tiny ⟨[],0,[],0,0,true,M,Y⟩:=⟨A9,λx hx=>by simp at hx,⟨F6,F7⟩,A9,λx hx=>by simp at hx,n_ ⟨F6,F7⟩,⟨F6,F7⟩,by show Y.size<=300;omega⟩;have N:=Kz (j.o.push c6.o k9 l0 (kM (s:=⟨[],0,[],0,0,true,M,Y⟩) (λ_=>⟨rfl,rfl⟩) (λ_=>⟨rfl,rfl⟩)) c8 a4);obtain⟨⟨_,y6⟩,e2⟩:=W.o.2.row.at (i:=1) A7;have z6:=W.o.2.lt;have y7:=W.o.1
      skip
      clear c8 a4 g2 g3 k9 l0;refine af d (λ_=>y7) ?_;clear d K;have b:=y7;refine ae 10 b ?_;refine aj 11 (λK d=>?_);go_simp
      refine af d (λg4=>Pg rfl g4) ?_;clear d K;refine aG ?_;have t2:=N.o.c0;have t3:=N.o.c1;have oz:=N.o.row.lt;have d3:=Kz (g9.o.but N.o.kb A7);obtain⟨⟨_,t4⟩,t5⟩:=d3.o.row.at (i:=0) A7;obtain⟨⟨_,x1⟩,t6⟩:=d3.o.row.at (i:=1) A7;have xz:=d3.o.lt;clear b y6 e2 z6 y7;go_wp2
      have hR:=NU (w5.setCell ⟨w1.heap.size,1,none⟩ (.b g (L.length+1) e4)) w.heap.size 0 [.a cost,.b g (L.length+1) e4] (d3.o.row.there (o:=0) (m:=2) (NQ _));refine X_ [.a cost,.b g (L.length+1) e4] _ results161 rfl hR underlying73 rfl Tryz.iM rfl ?_;exact N.o.ends d3.o k0 l1.o rfl A7 A7 (by rw[OD];show 1<=L.length+1;omega) (by rw[OD];show L.length+1<=20;omega) A7
theorem zh(w:Pv)(rb:Nat)(a:Pt)(cap:Nat)(bs:List UInt8)(p i n:Nat)(b c:Int)(d:b= (i:Int))(f:c= (n:Int))(h:Rd w rb a cap bs p)(j:p<=800000)(hi:i<=100000)(k:n<=100000)(l:bs.length<=2000):
  Calls prog 161 #[.c rb,.a b,.a c] w λe w'=>sF w w' rb a cap bs p 100 e:=by
 rw[d,f];exact xq w rb a cap bs p i n h j hi k l
theorem jK(w:Pv)(i:Nat)(a:Int)(b:a= (i:Int))(hi:i<=100000):
  Calls prog 111 #[.a a] w λe w'=>CU w w' e:=by
 rw[b];exact nC w i hi
def qR(F t M N B:Nat):Prop:=∀(w:Pv) (rb:Nat) (a:Pt) (cap:Nat) (bs:List UInt8) (p:Nat),Rd w rb a cap bs p->p<=B->bs.length<=2000->
 Calls prog F #[.c rb] w λe w'=>jd M N w w' rb a cap bs p t e
theorem jd.via{N:Nat}{A0:Pv}{d t t':Nat}{e:Ending}(r:jd M N w1 w2 rb a cap bs d t e)(c:Xk rb (rb+1) A0 w1)(k0:K_ w A0)(H:p<=d)(h2:d+t<=p+t')(s:Rd w rb a cap bs p){b:Nat}(x:w.heap.size<=b)(y:aB w1 b 25 1)(I:b≠rb):
  ∃v,e= .returned (.agg #[v])/\aB w2 b 25 1/\(∃va vn vc,v= .slice va vn vc)/\jd M N w (w2.setCell ⟨b,0,none⟩ v) rb a cap bs p t' e:=by
 obtain⟨v,L,A,f,J,K,B,C,h,D,i,E⟩:=r;have j:aB w2 b 25 1:=y.but i A7;have F:=j.same (o:=0) v;have k:Below w.heap.size w2 (w2.setCell ⟨b,0,none⟩ v):=(Below.refl _ _).setCell (p:=⟨b,0,none⟩) x _;have l:Xk rb (rb+1) w w1:=⟨c.os.trans k0.os,c.tape.trans k0.tape,c.output.trans k0.output,NT k0.size c.size,λm n G=>(c.block m (NR n k0.size) G).trans (k0.block m n)⟩;have q:=l.trans i;obtain⟨va,vc,rfl,_,_⟩:=h.slice;exact⟨_,f,j,⟨_,_,_,rfl⟩,_,L,A,f,A7,A7,B,C,h.same F A8 A8 A8 A8,D.below s k q.size,q.below k,E.mono l.size⟩
theorem IY(c7:Hid (qR 159 400 20 60 700000))(c8:Hid (qR 160 400 20 60 700000)):qR 109 1100 20 60 600000:=by
 intro w j a l n p f hp C;have U:K_ w (w.alloc (.cells #[J3] 25)):=ah _ _;have b0:Hid (Rd (w.alloc (.cells #[J3] 25)) j a l n p):=f.kept U;have y:Hid (aB (w.alloc (.cells #[J3] 25)) w.heap.size 25 1):=aB.made w _ _;have e9:=f.row.lt;have a4:=Kz f;clear f;go_enter func109,ntmps109
 go_wp2_with fail
 refine (aM _ j a l n p _ 10 rfl b0.o A7 A7 C).mono ?_;rintro A e ⟨V,rfl,f1,b1,a5⟩;have⟨W,X⟩:=aH b1 a5;have D:=Kz (y.o.but a5 A7);clear b1 a5;by_cases Y:V=0
 .have c9:((V:Int) == 0)=true:=by simp[Y]
  clear Y;go_wp2_with fail
  refine (c7.out _ j a l n (p+1) W.o A7 C).mono ?_;intro A Z E;obtain⟨v,rfl,q,⟨F,G,H,rfl⟩,I⟩:=E.via (p:=p) X.o U A7 A7 a4.o (NQ _) D.o A7 (t':=1100);have⟨HD,a6⟩:=aH I q;have z2:=q.lt;obtain⟨⟨_,u0⟩,f0⟩:=q.row.at (i:=0) A7;clear I E q;go_wp2
  have f:=NU Z w.heap.size 0 [.slice F G H] (a6.o.row.there (o:=0) (m:=1) (NQ _));exact X_ [.slice F G H] _ results109 rfl f underlying25 rfl Tryz.g_ rfl HD.o
 have c9:((V:Int) == 0)=false:=by simpa using Y
 clear Y;by_cases h4:(V:Int)<4
 .go_wp2_with fail
  refine (c8.out _ j a l n (p+1) W.o A7 C).mono ?_;intro A Z E;obtain⟨v,rfl,q,⟨F,G,H,rfl⟩,I⟩:=E.via (p:=p) X.o U A7 A7 a4.o (NQ _) D.o A7 (t':=1100);have⟨HD,a6⟩:=aH I q;have z2:=q.lt;obtain⟨⟨_,u0⟩,f0⟩:=q.row.at (i:=0) A7;clear I E q;go_wp2
  have f:=NU Z w.heap.size 0 [.slice F G H] (a6.o.row.there (o:=0) (m:=1) (NQ _));exact X_ [.slice F G H] _ results109 rfl f underlying25 rfl Tryz.g_ rfl HD.o
 have a7:Hid (gu 20 (w.alloc (.cells #[J3] 25)) (e.alloc (.cells #[J3] 25)) j e.heap.size a l n (p+1) J3 [] []):=gu.made b0.o W.o X.o;have b2:Hid (aB (e.alloc (.cells #[J3] 25)) w.heap.size 25 1):=D.o.kept (ah _ _);go_wp2_with fail
 refine (aM _ j a l n (p+1) _ 9 rfl a7.o.rd A7 A7 C).mono ?_;rintro A Z ⟨v2,rfl,f2,b3,a8⟩;have b4:=Kz (a7.o.drawn b3 a8);have J:=Kz (b2.o.but a8 A7);have d0:w.heap.size≠e.heap.size:=λA=>by have:=D.o.lt;omega
 obtain⟨L,f3⟩:∃L:Nat,L=2+v2:=⟨_,rfl⟩;clear b3 a8 a7 b2 D W X;go_wp2
 go_loopg [6] L (λg d1 wr=>∃(k:Nat) (p':Nat) (v:Pw) (a0:List Qq) (xs:List Pw),d1= .a (k:Int)/\k+g=L/\a0.length=k/\p<=p'/\p'<=p+2+100*k/\aB wr w.heap.size 25 1/\gu 20 (w.alloc (.cells #[J3] 25)) wr j e.heap.size a l n p' v a0 xs)
 case atStart=>exact⟨0,p+2,_,[],[],rfl,A7,rfl,A7,A7,J.o,b4.o⟩
 case round=>
  clear b4 J;obtain⟨k,p7,v,a0,xs,rfl,hk,hL,f4,f5,b5,B⟩:=hrel;obtain⟨wO,rfl⟩:=ai wr;have⟨HO,r,y⟩:=fu B hL b5;obtain⟨M,O,rfl⟩:=ay B.own;have y0:=B.c0;have zb:=B.row.lt;have f6:=B.kb.size;rw[hL] at y0;clear B hL b5;by_cases f7:(k:Int)<2+ (v2:Int)
  .have d2:Hid (∀v:Pv,v.cell? ⟨e.heap.size,0,none⟩=wO.cell? ⟨e.heap.size,0,none⟩->(λ(v:Pv)=>J4 v e.heap.size 0 (.slice M k O)) v):=λv hv=>hv.trans y0
   obtain⟨d3,d4,d5,d6,d7⟩:=aS Tryz.nK;go_wp2
   refine Qx.region C9 (λ(v:Pv)=>J4 v e.heap.size 0 (.slice M k O)) 12 y0 (λb=>?_);refine ae 0 b ?_;refine ae 1 b ?_;refine ae 2 b ?_;refine ae 4 b ?_;refine ae 5 b ?_;refine ae 6 b ?_;refine aF 3 (λK c=>?_);go_simp
   go_at_call 111
   refine (jK _ k _ rfl A7).mono ?_;rintro A w3 ⟨s,rfl,f8,k3⟩;have K3:K_ wO w3:=(bD _).trans k3;dsimp only;refine c.out _ _ (λ_=>d2.o w3 (K3.cell zb)) ?_;clear c K b k3;have a1:=Kz (HO.o.kept K3);have J:=Kz (y.o.kept K3);have y3:=(K3.cell (o:=0) zb).trans y0;have f9:=a1.o.row.lt;have b:=y3;try simp only[upP]
   refine aF 7 (λK c=>?_);go_simp
   go_at_call 161
   refine (zh _ j a l n p7 k L _ _ rfl A7 a1.o.rd A7 A7 A7 C).mono ?_;rintro A P ⟨cost,us,x,p8,rfl,g0,g1,d8,d9,b6,b7,b8,b9,a9⟩;have Q:=Kz (a1.o.drawn b9 a9);have e0:=Kz (J.o.but a9 A7);have y4:=Q.o.c0;rw[r.o] at y4;have c1:=Kz b8.g;obtain⟨R,S,rfl⟩:=c1.o.slice;have e1:Hid (Qq.TinyN 20 ⟨s,cost,x⟩):=⟨by show s.size<=300;omega,b6,by show x.length<=21;omega,b7⟩;dsimp only;refine c.out _ _ (λ_=>y4) ?_;clear c K b b8 b9 a9 d8 d9 b6 b7 y3 a1 J;have e2:=Q.o.row.lt;have b:=y4;try simp only[upP]
   refine ae 8 b ?_;refine aj 9 (λK c=>?_);go_simp
   have z:K_ P (P.alloc (.cells #[.string s,.a cost,.slice R x.length S] 88)):=ah _ _;refine af c (λ_=>(z.cell e2).trans y4) ?_;clear c K b;refine aj 10 (λK c=>?_);have c2:=Kz (Q.o.kept z);have a2:=c2.o.own;rw[r.o] at a2;have e3:(w.alloc (.cells #[J3] 25)).heap.size<=(P.alloc (.cells #[.string s,.a cost,.slice R x.length S] 88)).heap.size:=c2.o.kb.size;refine step_append_lies _ rfl (.tmp 27) (.tmp 35) 23 rfl (w.alloc (.cells #[J3] 25)).heap.size 88 d3 _ 3 48 underlying23 d4 d5 d6 d7 rfl A8 (.slice M k O) k xs D9 a2 ⟨P.heap.size,0,none⟩ 1 1 [.string s,.a cost,.slice R x.length S] D9 rfl (nZ _ _ _ _) (oo _ _ _ _ _) A7 D5 A7 e3 _ rfl ?_;intro g c3 w6 c4 a3 e4 g2;have T:=Q.o.fZ z (by rw[r.o];exact a3);have y6:=T.1;rw[r.o] at y6;have g3:=T.2.lt;have g4:=(T.2.row.at (i:=0) A7).2;obtain⟨vo,g5⟩:=(T.2.row.at (i:=0) A7).1;have e5:Hid (gu 20 (w.alloc (.cells #[J3] 25)) (w6.setCell ⟨e.heap.size,0,none⟩ (.b g (k+1) c3)) j e.heap.size a l n p8 (.b g (k+1) c3) (a0++ [⟨s,cost,x⟩]) (xs++ [.string s,.a cost,.slice R x.length S])):=
    Q.o.push (d:=⟨s,cost,x⟩) z (c1.o.same (u:=25) (.au z) A8 A8 A8) e1.o (by rw[r.o];exact c4) (by rw[r.o];exact a3)
   have c5:aC 88 (P.alloc (.cells #[.string s,.a cost,.slice R x.length S] 88)) w6:=aC.aI a2 a3;have e6:Hid (aB w6 w.heap.size 25 1):=by
    obtain⟨c6,e7,e8⟩:=e0.o.kept z;exact⟨c6,c5 _ c6 _ _ A8 e7,e8⟩
   clear T a2 c4 a3 e4 c5 z;refine af c (λ_=>y6) ?_;clear c K;have b:=y6;refine ae 11 b ?_;refine aj 12 (λK c=>?_);go_simp
   refine af c (λh=>Pg rfl h) ?_;clear c K;refine aG ?_;go_wp2
   go_roundg (gk-1)
   case rel=>exact⟨k+1,p8,_,_,_,C8,A7,by rw[OD,r.o];rfl,A7,A7,e6.o.block (Below.heap_setCell _ _ _ _ (by simpa using d0)),e5.o⟩
   case measure=>omega
  .obtain⟨⟨_,x0⟩,g6⟩:=y.o.row.at (i:=0) A7;have z1:=y.o.lt;go_wp2
   have f:=NU wO w.heap.size 0 [.slice M k O] (y.o.row.there (o:=0) (m:=1) (NQ _));have hE:=HO.o.ends (N:=60) (p:=p) (t:=1100) y.o (NQ _) U a4.o rfl A7 A7 (by have:=r.o;omega);rw[r.o] at hE;exact X_ [.slice M k O] _ results109 rfl f underlying25 rfl Tryz.g_ rfl hE
section
variable {M : Nat} {w wr : Pv} {rb ob sb : Nat} {a : Pt} {cap : Nat} {bs : List UInt8} {p : Nat} {cost : Int} {v : Pw} {L : List Xj} {xs : List Pw} {k : Nat} {va vc : Pw} {s : Xj}
theorem eO.fin(h:eO M w wr rb ob sb a cap bs p cost v L xs k va vc s)(x:Bool):eO M w (wr.setCell ⟨sb,5,none⟩ (.bool x)) rb ob sb a cap bs p cost v L xs k va vc {s with fin:=x}:=
 h.field (h.st.box.fin x) rfl rfl ⟨h.st.tiny.asks,h.st.tiny.eZ,h.st.tiny.on,h.st.tiny.cases,h.st.tiny.dG,h.st.tiny.els,h.st.tiny.fall,h.st.tiny.give⟩
theorem eO.bad(h:eO M w wr rb ob sb a cap bs p cost v L xs k va vc s)(x:Bool):eO M w (wr.setCell ⟨sb,6,none⟩ (.bool x)) rb ob sb a cap bs p cost v L xs k va vc {s with bad:=x}:=
 h.field (h.st.box.bad x) rfl rfl ⟨h.st.tiny.asks,h.st.tiny.eZ,h.st.tiny.on,h.st.tiny.cases,h.st.tiny.dG,h.st.tiny.els,h.st.tiny.fall,h.st.tiny.give⟩
theorem eO.give(h:eO M w wr rb ob sb a cap bs p cost v L xs k va vc s)(x:Ps)(c:x.size<=300):eO M w (wr.setCell ⟨sb,7,none⟩ (.string x)) rb ob sb a cap bs p cost v L xs k va vc {s with give:=x}:=
 h.field (h.st.box.give x) rfl rfl ⟨h.st.tiny.asks,h.st.tiny.eZ,h.st.tiny.on,h.st.tiny.cases,h.st.tiny.dG,h.st.tiny.els,h.st.tiny.fall,c⟩
theorem eO.on(h:eO M w wr rb ob sb a cap bs p cost v L xs k va vc s)(x:Int)(c: -1000<=x/\x<=1000):eO M w (wr.setCell ⟨sb,1,none⟩ (.a x)) rb ob sb a cap bs p cost v L xs k va vc {s with on:=x}:=
 h.field (h.st.box.on x) rfl rfl ⟨h.st.tiny.asks,h.st.tiny.eZ,c,h.st.tiny.cases,h.st.tiny.dG,h.st.tiny.els,h.st.tiny.fall,h.st.tiny.give⟩
theorem eO.els(h:eO M w wr rb ob sb a cap bs p cost v L xs k va vc s)(x:Int)(c:In64 x):eO M w (wr.setCell ⟨sb,3,none⟩ (.a x)) rb ob sb a cap bs p cost v L xs k va vc {s with els:=x}:=
 h.field (h.st.box.els x) rfl rfl ⟨h.st.tiny.asks,h.st.tiny.eZ,h.st.tiny.on,h.st.tiny.cases,h.st.tiny.dG,c,h.st.tiny.fall,h.st.tiny.give⟩
theorem eO.fall(h:eO M w wr rb ob sb a cap bs p cost v L xs k va vc s)(x:Int)(c: -1000<=x/\x<=1000):eO M w (wr.setCell ⟨sb,4,none⟩ (.a x)) rb ob sb a cap bs p cost v L xs k va vc {s with fall:=x}:=
 h.field (h.st.box.fall x) rfl rfl ⟨h.st.tiny.asks,h.st.tiny.eZ,h.st.tiny.on,h.st.tiny.cases,h.st.tiny.dG,h.st.tiny.els,c,h.st.tiny.give⟩
end
theorem eO.Me{ob sb:Nat}{cost:Int}{k:Nat}{va vc:Pw}(h:eO M w wr rb ob sb a cap bs p cost v L xs k va vc s)(d:K_ wr w1)(e:w1.grownBy w2 vc.ownBlock):w2.cell? ⟨ob,1,none⟩=some v:=by
 have b:=h.kept d;exact ((b.row.ji (aC.aI b.st.cases e) A8).2 1).trans b.c1
theorem eO.cut{ob sb:Nat}{cost:Int}{k g b:Nat}{va vc:Pw}(h:eO M w wr rb ob sb a cap bs p cost (.b g L.length b) L xs k va vc s):
  uY M w (wr.setCell ⟨ob,1,none⟩ (.b g k b)) rb ob a cap bs p cost (.b g k b) (L.take k):=by
 have x:=h.kl;have l:=h.row.same (o:=1) (.b g k b);have d:Below w.heap.size wr (wr.setCell ⟨ob,1,none⟩ (.b g k b)):=(Below.refl _ _).setCell h.obl _;obtain⟨y,m⟩:=h.st.rd0;have c:(L.take k).length=k:=E9;rcases h.own.2 with⟨e,_⟩|⟨z,A,n,e,B,q,C,_,D,_⟩
 .simp at e
 simp only[OG,OE,Po,and_true,true_and] at e;obtain⟨rfl,rfl⟩:=e;refine⟨h.st.rd.below m d h.st.kb.size,h.st.kb.below d,h.row.set _,(Xx A7 _).trans h.c0,bu h.row.row A7 _,StW.same ⟨some ⟨g,0,none⟩,b,by rw[c],by rw[c];omega,λi f=>?_⟩ l A8 A8 A8,λt r=>h.tiny t (List.mem_of_mem_take r)⟩;rw[c] at f;have j:=(h.oth i A7 A7).1;have v:(L.take k).getD i Xj.zero=L.getD i Xj.zero:=by simp[List.getD,f]
 rw[v];exact⟨g,0,n,_,lN xs i,rfl,q,qV h.own i,j.step,j.oP⟩
theorem jR.fin{c:Nat}{cost:Int}(h:jR M w wr rb c a cap bs p cost v L xs):uY M w wr rb c a cap bs p cost v L:=
 ⟨h.rd,h.kb,h.row,h.c0,h.c1,StW.gN h.own h.pack h.oP,h.tiny⟩
theorem eO.act{ob sb:Nat}{cost:Int}{k:Nat}{va vc:Pw}(h:eO M w wr rb ob sb a cap bs p cost v L xs k va vc s)(c:eQ wr w.heap.size xs L):jR M w wr rb ob a cap bs p cost v L xs:=
 ⟨h.st.rd,h.st.rd0,h.obl,h.st.kb,h.row,h.c0,h.c1,h.own,c.packed,h.tiny,c.oP⟩
def M_(M:Nat)(A0 wx:Pv)(rb ob sb:Nat)(a:Pt)(cap:Nat)(bs:List UInt8)(p:Nat)(v:Pw)(L:List Xj)(xs:List Pw)(k:Nat):Prop:=
 ∃(cost:Int) (va vc:Pw) (s:Xj) (p':Nat),(-1000<=cost/\cost<=1000)/\p<=p'/\p'<=p+4/\eO M A0 wx rb ob sb a cap bs p' cost v L xs k va vc s
theorem GH(mN:Nat)(o3:mN<=900)(w:Pv)(rb:Nat)(a:Pt)(cap:Nat)(bs:List UInt8)(p:Nat)(cost:Int)(sa:Pt)(b5:Nat)(L:List Xj)(hR:Rd w rb a cap bs p)(hp:p<=800000)(M:bs.length<=2000)(hL:L.length<=21)(N: -1000<=cost/\cost<=1000)(f8:∀s∈L,s.TinyN mN)(hS:kW w sa L):
  Calls prog 164 #[.c rb,.agg #[.a cost,.slice sa L.length b5]] w λe w'=>Mk (mN+10) w w' rb a cap bs p 10 e:=by
 obtain⟨I,b6⟩:=ai ((w.alloc (.cells #[.a cost,.slice sa L.length b5] 73)).alloc (.cells #[.a 0,J3] 73));have k0:K_ w I:=by rw[b6];exact (ah _ _).alloc _
 have i5:I.heap.size=w.heap.size+2:=by rw[b6];simp
 have d6:Hid (aB I (w.heap.size+1) 73 2):=by
  rw[b6];refine Kz ?_;have:=aB.made (w.alloc (.cells #[.a cost,.slice sa L.length b5] 73)) #[.a 0,J3] 73;simpa using this
 have o4:I.cell? ⟨w.heap.size,0,none⟩=some (.a cost):=by
  rw[b6,K_.cell (w:=w.alloc (.cells #[.a cost,.slice sa L.length b5] 73)) (ah _ _) A9];exact Xz w _ _ 0 _ rfl
 have a1:I.cell? ⟨w.heap.size,1,none⟩=some (.slice sa L.length b5):=by
  rw[b6,K_.cell (w:=w.alloc (.cells #[.a cost,.slice sa L.length b5] 73)) (ah _ _) A9];exact Xz w _ _ 1 _ rfl
 have az:w.heap.size<I.heap.size:=A7;have d7:=Kz hR;have d8:=Kz (hR.kept k0);have o5:=hR.row.lt;have i6:=Kz f8;have i7:Hid (∀s∈L,s.TinyN (mN+10)):=λs hs=>(f8 s hs).mono A7
 clear hR f8;go_enter func164,ntmps164
 go_upto_region 1 with fail
 rw[<-b6];have o6:=Kz i5;clear b6 i5;go_wp2_with fail
 refine (Ec _ cost sa b5 L A7 (mN:=mN) A7 i6.o (hS.kept k0)).mono ?_;rintro e H ⟨v1,xs,rfl,f9,i8,Z⟩;obtain⟨av,B,rfl⟩:=ay f9;have kk:K_ H (H.alloc (.cells #[.a cost,.slice av L.length B] 73)):=ah _ _;have a0:=Kz (Z.trans kk);have b1:=Kz (ak f9 kk);have d9:=Kz (i8.same (u:=114) (aC.au kk) A8 A8);have c5:Hid (aB (H.alloc (.cells #[.a cost,.slice av L.length B] 73)) H.heap.size 73 2):=aB.made H _ _;have c7:Hid ((H.alloc (.cells #[.a cost,.slice av L.length B] 73)).cell? ⟨H.heap.size,0,none⟩=some (.a cost)):=Xz H _ _ 0 _ rfl;have b2:Hid ((H.alloc (.cells #[.a cost,.slice av L.length B] 73)).cell? ⟨H.heap.size,1,none⟩=some (.slice av L.length B)):=Xz H _ _ 1 _ rfl;have l8:I.heap.size<=H.heap.size:=Z.size;clear f9 i8 Z kk;go_upto_region 2 with fail
 obtain⟨W2,i9⟩:=ai (H.alloc (.cells #[.a cost,.slice av L.length B] 73));rw[<-i9] at a0 b1 d9 c5 c7 b2⊢;clear i9;have o1:=b2.o;have oz:=c5.o.lt;by_cases e1:L.length=0
 .have l9:((L.length:Int) == 0)=true:=by simp[e1]
  have P:=Kz (uY.made (d8.o.kept a0.o) (.au a0.o) c5.o c7.o b2.o b1.o d9.o i7.o);clear e1;have C:=Kz (d6.o.kept a0.o);obtain⟨⟨_,x0⟩,g0⟩:=C.o.row.at (i:=0) A7;obtain⟨⟨_,x1⟩,g1⟩:=C.o.row.at (i:=1) A7;have xz:=C.o.lt;have o0:=c7.o;go_wp2
  have hR:=NU W2 (w.heap.size+1) 0 [.a cost,.slice av L.length B] (C.o.row.there (o:=0) (m:=2) (NQ _));exact X_ [.a cost,.slice av L.length B] _ results164 rfl hR underlying73 rfl Tryz.iM rfl (P.o.ends C.o A7 k0 d7.o rfl (NQ _) A7 A7 N)
 .have l9:((L.length:Int) == 0)=false:=by simpa using e1
  go_wp2_with fail
  refine (aM _ rb a cap bs p _ L.length rfl (d8.o.kept a0.o) A7 A7 M).mono ?_;rintro e V ⟨R,rfl,hk,j0,g3⟩;have g4:R<L.length:=A7;have e2:=g3.sameKind (d8.o.kept a0.o);have j1:=Kz j0;have m0:Hid (Xk rb (rb+1) I V):=(Xk.au a0.o).trans g3;have e3:=c5.o.ji e2 A8;have g5:=Kz e3.1;have o0:=(e3.2 0).trans c7.o;have j2:=(e3.2 1).trans b2.o;have e4:=Kz (aU b1.o e2 A8);have e5:=Kz (d9.o.same e2 A8 A8);have m1:=g5.o.lt;obtain⟨s,c8⟩:=ai (L.getD R Xj.zero);have j3:=e5.o.each R g4;rw[<-c8] at j3;obtain⟨aa,ca,ac,cc,g6,g1,g2⟩:=j3;rcases e4.o.2 with⟨_,e0⟩|⟨g,c9,m2,ev,o7,g7,j4,_,c3,_⟩
  .exact Pg e0 e1
  simp only[OG,true_and] at ev;obtain⟨rfl,rfl⟩:=ev;have a8:=qV e4.o R;rw[g6] at a8;have c0:=a8 0 _ rfl;have c1:=a8 1 _ rfl;have j5:=a8 2 _ rfl;have j6:=a8 3 _ rfl;have j7:=a8 4 _ rfl;have j8:=a8 5 _ rfl;have c6:=a8 6 _ rfl;have j9:=a8 7 _ rfl;rw[OJ] at c0;simp only[Ow] at c0 c1 j5 j6 j7 j8 c6 j9;have gz:=aO g7;have e6:=Kz (eO.made j1.o d8.o m0.o l8 g5.o o0 j2 e4.o e5.o g4 i7.o c8 g6);have m3:Hid (aB V g 176 (B*8)):=⟨m2,g7,c3⟩;have o8:L.length<=B:=j4;have o9:(R:Int)<(L.length:Int):=A7;have g8:s.TinyN mN:=i6.o s (by rw[c8];simp[List.getD,g4]);have p0:=g8.asks;have p1:=g8.cases;clear g8;have p2:=Kz c8;clear a8 g7 c3 g1 g2 g6 j4 j0 g3 e2 e3 c8;go_wp2_with fail
  refine (aM _ rb a cap bs (p+1) _ 14 rfl e6.o.st.rd A7 A7 M).mono ?_;rintro e T ⟨u,rfl,y,k1,g9⟩;have n:=Kz (e6.o.drawn k1 g9);have k2:=g9.sameKind e6.o.st.rd;have d0:K_ V (V.alloc (.cells #[.slice aa s.asks.length ca,.a s.on,.slice ac s.cases.length cc,.a s.els,.a s.fall,.bool s.fin,.bool s.bad,.string s.give] 176)):=ah _ _;have k3:=Kz ((e5.o.same (u:=114) (aC.au d0) A8 A8).same k2 A8 A8);have e7:V.heap.size<T.heap.size:=n.o.st.box.row.lt;clear k1 g9 e6 e5 d9 c0 c1 j5 j6 j7 j8 c6 j9 m3 g5 e4 o0 j2 o1 c7 b2 c5 b1 d0 k2 j1 gz m1 oz
  go_upto_block 0 with fail
  go_cut [8,9,10] from 31 to 198 (λ_ _ _ wx=>M_ (mN+10) I wx rb H.heap.size V.heap.size a cap bs (p+2) (.b g L.length B) L xs R)
  case first=>
   have b7:u=0\/u=1\/u=2\/u=3\/u=4\/u=5\/u=6\/u=7\/u=8\/u=9\/u=10\/u=11\/u=12\/u=13:=A7;have y5:=n.o.st.box.c5;have y6:=n.o.st.box.c6;have y3:=n.o.st.box.c3;obtain⟨_,f5⟩:=n.o.st.box.cell (o:=5) A7;obtain⟨_,f6⟩:=n.o.st.box.cell (o:=6) A7;obtain⟨_,h0⟩:=n.o.st.box.cell (o:=3) A7;obtain⟨_,h1⟩:=n.o.st.box.cell (o:=7) A7;clear y;obtain rfl|rfl|rfl|rfl|rfl|rfl|rfl|rfl|rfl|rfl|rfl|rfl|rfl|rfl:=b7
   .have d0:K_ T (T.alloc (.cells #[.a 0,.a 20,.a 21] 3)):=ah _ _;have r:=Kz (n.o.kept d0);go_wp2_with fail
    refine (aM _ rb a cap bs (p+2) _ 3 rfl r.o.st.rd A7 A7 M).mono ?_;rintro e l ⟨q,rfl,hq,k,i⟩;have j:=Kz (r.o.drawn k i);obtain⟨c,x,z,A⟩:=wu [0,20,21] i n.o.st.rd.row.lt q (by show q<3;omega) A8;obtain⟨⟨_,r0⟩,f0⟩:=j.o.row.row.at (i:=0) A7;have rz:=j.o.row.lt;have lz:T.heap.size<l.heap.size:=NR A9 i.size;have p3:(q:Int)<3:=A7;clear k i r d0;go_wp2
    go_meet
    exact⟨c,_,_,_,p+3,⟨z,A⟩,A7,A7,j.o.cost⟩
   .go_wp2
    go_meet
    exact⟨cost,_,_,_,p+2,N,A7,A7,n.o.fin _⟩
   .go_wp2
    go_meet
    exact⟨cost,_,_,_,p+2,N,A7,A7,n.o.bad _⟩
   .go_wp2_with fail
    refine (aM _ rb a cap bs (p+2) _ 2 rfl n.o.st.rd A7 A7 M).mono ?_;rintro e l ⟨q,rfl,hq,k,i⟩;have j:=Kz (n.o.drawn k i);obtain⟨⟨_,r7⟩,p4⟩:=j.o.st.box.cell (o:=7) A7;have rz:=j.o.st.box.row.lt;clear k i;go_wp2_with fail
    refine (wh _ ⟨#[103]⟩ _ (30+q) (by push_cast;rfl) A7 A8).mono ?_;rintro e w6 ⟨⟨G,rfl,t⟩,rfl⟩;have d1:G.size<=300:=by have d2:(⟨#[103]⟩:Ps).size=1:=rfl;rw[d2] at t;omega
    go_wp2
    go_meet
    exact⟨cost,_,_,_,p+3,N,A7,A7,j.o.give _ d1⟩
   .have r:=Kz (n.o.kept (bD T));have Q:=r.o.st.box.c0;go_upto_region 17 with fail
    refine Qx.region C9 (λw'=>w'.cell? ⟨V.heap.size,0,none⟩=some (.slice aa s.asks.length ca)) 14 Q (λd=>?_);generalize a3:T.drew=W at r d⊢;clear a3 Q;refine ae 0 d ?_;refine ae 1 d ?_;refine ae 2 d ?_;refine ae 7 d ?_;refine aF 3 (λK b=>?_);go_simp
    go_at_call 19
    refine (aM _ rb a cap bs (p+2) _ 2 rfl r.o.st.rd A7 A7 M).mono ?_;rintro e l ⟨q,rfl,hq,k,i⟩;have j:=Kz (r.o.drawn k i);clear k i;dsimp only;refine af b (λ_=>j.o.st.box.c0) ?_;clear b K;clear d r;have d:=j.o.st.box.c0;have m4:IntKind.i64.wrap (20+ (q:Int))=20+ (q:Int):=E8;refine cB 4 (.a (20+ (q:Int))) d ?_ ?_
    .intro u y;try dsimp only at y
     go_simp
     try with_reducible rfl
    try simp only[upP]
    refine aF 5 (λK b=>?_);go_simp
    go_at_call 163
    refine (wh _ ⟨#[110]⟩ _ (20+q) (by push_cast;rfl) A7 A8).mono ?_;rintro e w6 ⟨⟨G,rfl,t⟩,h2⟩;have d1:G.size<=300:=by have d2:(⟨#[110]⟩:Ps).size=1:=rfl;rw[d2] at t;omega
    subst h2;dsimp only;refine af b (λ_=>j.o.st.box.c0) ?_;clear b K;have k4:∀c∈([⟨#[]⟩,⟨#[45]⟩,⟨#[97,44,98]⟩,⟨#[120,32,121]⟩,G,⟨#[97]⟩]:List Ps),c.size<=300:=by
     intro c x;simp only[OL,OM,or_false] at x;rcases x with rfl | rfl | rfl | rfl | rfl | rfl <;> first | exact d1 | decide
    refine iy 6 8 (λK b=>?_) (λK b=>?_)
    .rw[Pe D8];go_simp
     have D:K_ w6 (w6.alloc (.cells #[.string ⟨#[]⟩,.string ⟨#[45]⟩,.string ⟨#[97,44,98]⟩,.string ⟨#[120,32,121]⟩,.string G,.string ⟨#[97]⟩] 9)):=ah _ _;have f:=Kz (j.o.kept D);refine af b (λ_=>f.o.st.box.c0) ?_;clear b K;clear d D;refine aF 8 (λK b=>?_);go_simp
     go_at_call 19
     refine (aM _ rb a cap bs (p+3) _ 6 rfl f.o.st.rd A7 A7 M).mono ?_;rintro e wE ⟨O,rfl,k5,k,i⟩;have J:=Kz (f.o.drawn k i);obtain⟨c,x,c3⟩:=Bh [⟨#[]⟩,⟨#[45]⟩,⟨#[97,44,98]⟩,⟨#[120,32,121]⟩,G,⟨#[97]⟩] i j.o.st.rd.row.lt O (by show O<6;omega) k4;have lz:w6.heap.size<wE.heap.size:=Nat.lt_of_lt_of_le A9 i.size;clear k i;dsimp only;refine af b (λ_=>J.o.st.box.c0) ?_;clear b K;have b8:(O:Int)<6:=A7;refine aj 9 (λK b=>?_);go_simp
     refine af b (λ_=>J.o.st.box.c0) ?_;clear b K;refine aj 10 (λK b=>?_);go_simp
     refine af b (λ_=>J.o.st.box.c0) ?_;clear b K;refine aj 11 (λK b=>?_);go_simp
     have U:K_ wE (wE.alloc (.cells #[.string c] 9)):=ah _ _;have a9:=Kz (J.o.kept U);have a2:=Kz U;refine af b (λ_=>a9.o.st.box.c0) ?_;clear b K;clear U;obtain⟨ic,a4,z,A,a5⟩:=aS Tryz.gM;refine aj 12 (λK b=>?_);refine step_append_lies _ rfl (.tmp 65) (.tmp 75) 26 rfl I.heap.size 9 ic _ 1 16 underlying26 a4 z A a5 rfl A8 (.slice aa s.asks.length ca) s.asks.length (s.asks.map Value.string) D9 a9.o.st.asks ⟨wE.heap.size,0,none⟩ 1 1 [.string c] D9 rfl (lK wE c) (kY c) A7 D5 A7 a9.o.st.kb.size _ rfl ?_;intro g2 e8 w8 a6 S X b0;have E:=Kz (J.o.st.uS a2.o S);have h3:=Kz (J.o.qI (x:=c) a2.o a6 S (xB X) A7 c3);have z6:=E.o.row.lt;have y6:=E.o.c0;obtain⟨_,f6⟩:=E.o.cell (o:=0) A7;clear a6 S X b0;refine af b (λ_=>E.o.c0) ?_;clear b K;have d:=E.o.c0;refine ae 13 d ?_;refine aj 14 (λK b=>?_);go_simp
     refine af b (λh=>Pg rfl h) ?_;clear b K;refine aG ?_;go_wp2
     go_meet
     exact⟨cost,_,_,_,p+4,N,A7,A7,h3.o⟩
    .rw[Pe D8];go_simp
     go_at_call 19
     refine (aM _ rb a cap bs (p+3) _ 6 rfl j.o.st.rd A7 A7 M).mono ?_;rintro e w7 ⟨O,rfl,k5,k,i⟩;have f:=Kz (j.o.drawn k i);clear k i;dsimp only;refine af b (λ_=>f.o.st.box.c0) ?_;clear b K;clear d;refine aF 6 (λK b=>?_);go_simp
     have D:K_ w7 (w7.alloc (.cells #[.string ⟨#[]⟩,.string ⟨#[45]⟩,.string ⟨#[97,44,98]⟩,.string ⟨#[120,32,121]⟩,.string G,.string ⟨#[97]⟩] 9)):=ah _ _;have J:=Kz (f.o.kept D);obtain⟨c,x,c3⟩:=Db w7 9 [⟨#[]⟩,⟨#[45]⟩,⟨#[97,44,98]⟩,⟨#[120,32,121]⟩,G,⟨#[97]⟩] O (by show O<6;omega) k4;clear D;have b9:(w7.alloc (.cells #[.string ⟨#[]⟩,.string ⟨#[45]⟩,.string ⟨#[97,44,98]⟩,.string ⟨#[120,32,121]⟩,.string G,.string ⟨#[97]⟩] 9)).cell? ⟨w7.heap.size,O,none⟩=some (.string c):=x;have lz:w7.heap.size<(w7.alloc (.cells #[.string ⟨#[]⟩,.string ⟨#[45]⟩,.string ⟨#[97,44,98]⟩,.string ⟨#[120,32,121]⟩,.string G,.string ⟨#[97]⟩] 9)).heap.size:=A9;clear x;refine af b (λ_=>J.o.st.box.c0) ?_;clear b K;generalize c2:w7.alloc (.cells #[.string ⟨#[]⟩,.string ⟨#[45]⟩,.string ⟨#[97,44,98]⟩,.string ⟨#[120,32,121]⟩,.string G,.string ⟨#[97]⟩] 9)=wE at J b9 lz⊢;clear c2;have b8:(O:Int)<6:=A7;refine aj 9 (λK b=>?_);go_simp
     refine af b (λ_=>J.o.st.box.c0) ?_;clear b K;refine aj 10 (λK b=>?_);go_simp
     refine af b (λ_=>J.o.st.box.c0) ?_;clear b K;refine aj 11 (λK b=>?_);go_simp
     have U:K_ wE (wE.alloc (.cells #[.string c] 9)):=ah _ _;have a9:=Kz (J.o.kept U);have a2:=Kz U;refine af b (λ_=>a9.o.st.box.c0) ?_;clear b K;clear U;obtain⟨ic,a4,z,A,a5⟩:=aS Tryz.gM;refine aj 12 (λK b=>?_);refine step_append_lies _ rfl (.tmp 65) (.tmp 75) 26 rfl I.heap.size 9 ic _ 1 16 underlying26 a4 z A a5 rfl A8 (.slice aa s.asks.length ca) s.asks.length (s.asks.map Value.string) D9 a9.o.st.asks ⟨wE.heap.size,0,none⟩ 1 1 [.string c] D9 rfl (lK wE c) (kY c) A7 D5 A7 a9.o.st.kb.size _ rfl ?_;intro g2 e8 w8 a6 S X b0;have E:=Kz (J.o.st.uS a2.o S);have h3:=Kz (J.o.qI (x:=c) a2.o a6 S (xB X) A7 c3);have z6:=E.o.row.lt;have y6:=E.o.c0;obtain⟨_,f6⟩:=E.o.cell (o:=0) A7;clear a6 S X b0;refine af b (λ_=>E.o.c0) ?_;clear b K;have d:=E.o.c0;refine ae 13 d ?_;refine aj 14 (λK b=>?_);go_simp
     refine af b (λh=>Pg rfl h) ?_;clear b K;refine aG ?_;go_wp2
     go_meet
     exact⟨cost,_,_,_,p+4,N,A7,A7,h3.o⟩
   .have r:=Kz (n.o.kept (bD T));have Q:=r.o.st.box.c0;have p5:s.asks.length<=900:=A7;go_upto_region 19 with fail
    refine Qx.region C9 (λw'=>w'.cell? ⟨V.heap.size,0,none⟩=some (.slice aa s.asks.length ca)) 9 Q (λd=>?_);generalize a3:T.drew=W at r d⊢;clear a3 Q;refine ae 0 d ?_;refine ae 1 d ?_;refine ae 2 d ?_;refine ae 4 d ?_;refine iy 3 5 (λK b=>?_) (λK b=>?_)
    .rw[Pe D8];go_simp
     have D:K_ W (W.alloc (.cells #[.a (-1),.a (s.asks.length:Int),.a 0,.a 1] 3)):=ah _ _;have j:=Kz (r.o.kept D);refine af b (λ_=>j.o.st.box.c0) ?_;clear b K;clear d D;refine aF 5 (λK b=>?_);go_simp
     go_at_call 19
     refine (aM _ rb a cap bs (p+2) _ 4 rfl j.o.st.rd A7 A7 M).mono ?_;rintro e l ⟨q,rfl,hq,k,i⟩;have f:=Kz (j.o.drawn k i);obtain⟨c,x,z,A⟩:=wu [-1,(s.asks.length:Int),0,1] i r.o.st.rd.row.lt q (by show q<4;omega) (λc x=>by simp at x;omega);have lz:W.heap.size<l.heap.size:=Nat.lt_of_lt_of_le A9 i.size;clear k i;dsimp only;refine af b (λ_=>f.o.st.box.c0) ?_;clear b K;have b8:(q:Int)<4:=A7;refine aj 6 (λK b=>?_);go_simp
     refine af b (λ_=>f.o.st.box.c0) ?_;clear b K;refine aj 7 (λK b=>?_);go_simp
     refine af b (λ_=>f.o.st.box.c0) ?_;clear b K;have d:=f.o.st.box.c0;refine ae 8 d ?_;obtain⟨_,d3⟩:=f.o.st.box.cell (o:=1) A7;obtain⟨⟨_,r1⟩,_⟩:=f.o.st.box.cell (o:=1) A7;have rz:=f.o.st.box.row.lt;refine aj 9 (λK b=>?_);go_simp
     refine af b (λh=>Pg rfl h) ?_;clear b K;refine aG ?_;go_wp2
     go_meet
     exact⟨cost,_,_,_,p+3,N,A7,A7,f.o.on c ⟨z,A⟩⟩
    .rw[Pe D8];go_simp
     go_at_call 19
     refine (aM _ rb a cap bs (p+2) _ 4 rfl r.o.st.rd A7 A7 M).mono ?_;rintro e l ⟨q,rfl,hq,k,i⟩;have j:=Kz (r.o.drawn k i);clear k i;dsimp only;refine af b (λ_=>j.o.st.box.c0) ?_;clear b K;clear d;refine aF 3 (λK b=>?_);go_simp
     have D:K_ l (l.alloc (.cells #[.a (-1),.a (s.asks.length:Int),.a 0,.a 1] 3)):=ah _ _;have f:=Kz (j.o.kept D);obtain⟨c,x,z,A⟩:=yh l 3 [-1,(s.asks.length:Int),0,1] q (by show q<4;omega) (λc x=>by simp at x;omega);clear D;have b9:(l.alloc (.cells #[.a (-1),.a (s.asks.length:Int),.a 0,.a 1] 3)).cell? ⟨l.heap.size,q,none⟩=some (.a c):=x;have lz:l.heap.size<(l.alloc (.cells #[.a (-1),.a (s.asks.length:Int),.a 0,.a 1] 3)).heap.size:=A9;clear x;refine af b (λ_=>f.o.st.box.c0) ?_;clear b K;generalize c2:l.alloc (.cells #[.a (-1),.a (s.asks.length:Int),.a 0,.a 1] 3)=wE at f b9 lz⊢;clear c2;have b8:(q:Int)<4:=A7;refine aj 6 (λK b=>?_);go_simp
     refine af b (λ_=>f.o.st.box.c0) ?_;clear b K;refine aj 7 (λK b=>?_);go_simp
     refine af b (λ_=>f.o.st.box.c0) ?_;clear b K;have d:=f.o.st.box.c0;refine ae 8 d ?_;obtain⟨_,d3⟩:=f.o.st.box.cell (o:=1) A7;obtain⟨⟨_,r1⟩,_⟩:=f.o.st.box.cell (o:=1) A7;have rz:=f.o.st.box.row.lt;refine aj 9 (λK b=>?_);go_simp
     refine af b (λh=>Pg rfl h) ?_;clear b K;refine aG ?_;go_wp2
     go_meet
     exact⟨cost,_,_,_,p+3,N,A7,A7,f.o.on c ⟨z,A⟩⟩
   .have r:=Kz (n.o.kept (bD T));have Q:=r.o.c1;have m5:IntKind.i64.wrap ((L.length:Int)-1)= (L.length:Int)-1:=E8;go_upto_region 21 with fail
    refine Qx.region C9 (λw'=>w'.cell? ⟨H.heap.size,1,none⟩=some (.b g L.length B)) 13 Q (λd=>?_);generalize a3:T.drew=W at r d⊢;clear a3 Q;refine ax 0 d ?_;refine ae 4 d ?_;refine ae 5 d ?_;refine cB 6 (.a ((L.length:Int)-1)) d ?_ ?_
    .intro u y;try dsimp only at y
     go_simp
     try with_reducible rfl
    try simp only[upP]
    refine ae 8 d ?_;refine iy 7 9 (λK b=>?_) (λK b=>?_)
    .rw[Pe D8];go_simp
     have D:K_ W (W.alloc (.cells #[.a (-1),.a (L.length:Int),.a ((L.length:Int)-1)] 3)):=ah _ _;have j:=Kz (r.o.kept D);refine af b (λ_=>j.o.c1) ?_;clear b K;clear d D;refine aF 9 (λK b=>?_);go_simp
     go_at_call 19
     refine (aM _ rb a cap bs (p+2) _ 3 rfl j.o.st.rd A7 A7 M).mono ?_;rintro e l ⟨q,rfl,hq,k,i⟩;have f:=Kz (j.o.drawn k i);obtain⟨c,x,z,A⟩:=wu [-1,(L.length:Int),(L.length:Int)-1] i r.o.st.rd.row.lt q (by show q<3;omega) (λc x=>by simp at x;omega);have lz:W.heap.size<l.heap.size:=Nat.lt_of_lt_of_le A9 i.size;clear k i;dsimp only;refine af b (λ_=>f.o.c1) ?_;clear b K;have b8:(q:Int)<3:=A7;refine aj 10 (λK b=>?_);go_simp
     refine af b (λ_=>f.o.c1) ?_;clear b K;refine aj 11 (λK b=>?_);go_simp
     refine af b (λ_=>f.o.c1) ?_;clear b K;have d:=f.o.c1;refine ae 12 d ?_;obtain⟨_,d3⟩:=f.o.st.box.cell (o:=3) A7;obtain⟨⟨_,r1⟩,_⟩:=f.o.st.box.cell (o:=3) A7;have rz:=f.o.st.box.row.lt;refine aj 13 (λK b=>?_);go_simp
     refine af b (λh=>Pg rfl h) ?_;clear b K;refine aG ?_;go_wp2
     go_meet
     exact⟨cost,_,_,_,p+3,N,A7,A7,f.o.els c (n_ ⟨z,A⟩)⟩
    .rw[Pe D8];go_simp
     go_at_call 19
     refine (aM _ rb a cap bs (p+2) _ 3 rfl r.o.st.rd A7 A7 M).mono ?_;rintro e l ⟨q,rfl,hq,k,i⟩;have j:=Kz (r.o.drawn k i);clear k i;dsimp only;refine af b (λ_=>j.o.c1) ?_;clear b K;clear d;refine aF 7 (λK b=>?_);go_simp
     have D:K_ l (l.alloc (.cells #[.a (-1),.a (L.length:Int),.a ((L.length:Int)-1)] 3)):=ah _ _;have f:=Kz (j.o.kept D);obtain⟨c,x,z,A⟩:=yh l 3 [-1,(L.length:Int),(L.length:Int)-1] q (by show q<3;omega) (λc x=>by simp at x;omega);clear D;have b9:(l.alloc (.cells #[.a (-1),.a (L.length:Int),.a ((L.length:Int)-1)] 3)).cell? ⟨l.heap.size,q,none⟩=some (.a c):=x;have lz:l.heap.size<(l.alloc (.cells #[.a (-1),.a (L.length:Int),.a ((L.length:Int)-1)] 3)).heap.size:=A9;clear x;refine af b (λ_=>f.o.c1) ?_;clear b K;generalize c2:l.alloc (.cells #[.a (-1),.a (L.length:Int),.a ((L.length:Int)-1)] 3)=wE at f b9 lz⊢;clear c2;have b8:(q:Int)<3:=A7;refine aj 10 (λK b=>?_);go_simp
     refine af b (λ_=>f.o.c1) ?_;clear b K;refine aj 11 (λK b=>?_);go_simp
     refine af b (λ_=>f.o.c1) ?_;clear b K;have d:=f.o.c1;refine ae 12 d ?_;obtain⟨_,d3⟩:=f.o.st.box.cell (o:=3) A7;obtain⟨⟨_,r1⟩,_⟩:=f.o.st.box.cell (o:=3) A7;have rz:=f.o.st.box.row.lt;refine aj 13 (λK b=>?_);go_simp
     refine af b (λh=>Pg rfl h) ?_;clear b K;refine aG ?_;go_wp2
     go_meet
     exact⟨cost,_,_,_,p+3,N,A7,A7,f.o.els c (n_ ⟨z,A⟩)⟩
   .have r:=Kz (n.o.kept (bD T));have Q:=r.o.c1;have m5:IntKind.i64.wrap ((L.length:Int)-1)= (L.length:Int)-1:=E8;go_upto_region 23 with fail
    refine Qx.region C9 (λw'=>w'.cell? ⟨H.heap.size,1,none⟩=some (.b g L.length B)) 13 Q (λd=>?_);generalize a3:T.drew=W at r d⊢;clear a3 Q;refine ax 0 d ?_;refine ae 4 d ?_;refine ae 5 d ?_;refine cB 6 (.a ((L.length:Int)-1)) d ?_ ?_
    .intro u y;try dsimp only at y
     go_simp
     try with_reducible rfl
    try simp only[upP]
    refine ae 8 d ?_;refine iy 7 9 (λK b=>?_) (λK b=>?_)
    .rw[Pe D8];go_simp
     have D:K_ W (W.alloc (.cells #[.a (-2),.a (-1),.a (L.length:Int),.a ((L.length:Int)-1)] 3)):=ah _ _;have j:=Kz (r.o.kept D);refine af b (λ_=>j.o.c1) ?_;clear b K;clear d D;refine aF 9 (λK b=>?_);go_simp
     go_at_call 19
     refine (aM _ rb a cap bs (p+2) _ 4 rfl j.o.st.rd A7 A7 M).mono ?_;rintro e l ⟨q,rfl,hq,k,i⟩;have f:=Kz (j.o.drawn k i);obtain⟨c,x,z,A⟩:=wu [-2, -1,(L.length:Int),(L.length:Int)-1] i r.o.st.rd.row.lt q (by show q<4;omega) (λc x=>by simp at x;omega);have lz:W.heap.size<l.heap.size:=Nat.lt_of_lt_of_le A9 i.size;clear k i;dsimp only;refine af b (λ_=>f.o.c1) ?_;clear b K;have b8:(q:Int)<4:=A7;refine aj 10 (λK b=>?_);go_simp
     refine af b (λ_=>f.o.c1) ?_;clear b K;refine aj 11 (λK b=>?_);go_simp
     refine af b (λ_=>f.o.c1) ?_;clear b K;have d:=f.o.c1;refine ae 12 d ?_;obtain⟨_,d3⟩:=f.o.st.box.cell (o:=4) A7;obtain⟨⟨_,r1⟩,_⟩:=f.o.st.box.cell (o:=4) A7;have rz:=f.o.st.box.row.lt;refine aj 13 (λK b=>?_);go_simp
     refine af b (λh=>Pg rfl h) ?_;clear b K;refine aG ?_;go_wp2
     go_meet
     exact⟨cost,_,_,_,p+3,N,A7,A7,f.o.fall c ⟨z,A⟩⟩
    .rw[Pe D8];go_simp
     go_at_call 19
     refine (aM _ rb a cap bs (p+2) _ 4 rfl r.o.st.rd A7 A7 M).mono ?_;rintro e l ⟨q,rfl,hq,k,i⟩;have j:=Kz (r.o.drawn k i);clear k i;dsimp only;refine af b (λ_=>j.o.c1) ?_;clear b K;clear d;refine aF 7 (λK b=>?_);go_simp
     have D:K_ l (l.alloc (.cells #[.a (-2),.a (-1),.a (L.length:Int),.a ((L.length:Int)-1)] 3)):=ah _ _;have f:=Kz (j.o.kept D);obtain⟨c,x,z,A⟩:=yh l 3 [-2, -1,(L.length:Int),(L.length:Int)-1] q (by show q<4;omega) (λc x=>by simp at x;omega);clear D;have b9:(l.alloc (.cells #[.a (-2),.a (-1),.a (L.length:Int),.a ((L.length:Int)-1)] 3)).cell? ⟨l.heap.size,q,none⟩=some (.a c):=x;have lz:l.heap.size<(l.alloc (.cells #[.a (-2),.a (-1),.a (L.length:Int),.a ((L.length:Int)-1)] 3)).heap.size:=A9;clear x;refine af b (λ_=>f.o.c1) ?_;clear b K;generalize c2:l.alloc (.cells #[.a (-2),.a (-1),.a (L.length:Int),.a ((L.length:Int)-1)] 3)=wE at f b9 lz⊢;clear c2;have b8:(q:Int)<4:=A7;refine aj 10 (λK b=>?_);go_simp
     refine af b (λ_=>f.o.c1) ?_;clear b K;refine aj 11 (λK b=>?_);go_simp
     refine af b (λ_=>f.o.c1) ?_;clear b K;have d:=f.o.c1;refine ae 12 d ?_;obtain⟨_,d3⟩:=f.o.st.box.cell (o:=4) A7;obtain⟨⟨_,r1⟩,_⟩:=f.o.st.box.cell (o:=4) A7;have rz:=f.o.st.box.row.lt;refine aj 13 (λK b=>?_);go_simp
     refine af b (λh=>Pg rfl h) ?_;clear b K;refine aG ?_;go_wp2
     go_meet
     exact⟨cost,_,_,_,p+3,N,A7,A7,f.o.fall c ⟨z,A⟩⟩
   .have r:=Kz (n.o.kept (bD T));have Q:=r.o.st.box.c2;have y1:=r.o.c1;have p6:IntKind.i64.wrap ((L.length:Int)+2)= (L.length:Int)+2:=E8;go_upto_region 25 with fail
    refine Qx.region C9 (λw'=>w'.cell? ⟨V.heap.size,2,none⟩=some (.slice ac s.cases.length cc)/\w'.cell? ⟨H.heap.size,1,none⟩=some (.b g L.length B)) 17 ⟨Q,y1⟩ (λd=>?_);generalize a3:T.drew=W at r d⊢;clear a3 Q y1;refine ae 0 d ?_;refine ae 1 d ?_;refine ae 2 d ?_;refine ax 6 d ?_;refine cB 10 (.a ((L.length:Int)+2)) d ?_ ?_
    .intro u y;try dsimp only at y
     go_simp
     try with_reducible rfl
    try simp only[upP]
    refine aF 3 (λK b=>?_);go_simp
    go_at_call 19
    refine (aM _ rb a cap bs (p+2) _ 2 rfl r.o.st.rd A7 A7 M).mono ?_;rintro e l ⟨q,rfl,hq,k,i⟩;have j:=Kz (r.o.drawn k i);clear k i;dsimp only;refine af b (λ_=>⟨j.o.st.box.c2,j.o.c1⟩) ?_;clear b K;clear d r;have d:=(show _/\_ from ⟨j.o.st.box.c2,j.o.c1⟩);have m4:IntKind.i64.wrap (200+ (q:Int))=200+ (q:Int):=E8;refine cB 4 (.a (200+ (q:Int))) d ?_ ?_
    .intro u y;try dsimp only at y
     go_simp
     try with_reducible rfl
    try simp only[upP]
    refine aF 5 (λK b=>?_);go_simp
    go_at_call 163
    refine (wh _ ⟨#[116]⟩ _ (200+q) (by push_cast;rfl) A7 A8).mono ?_;rintro e w6 ⟨⟨G,rfl,t⟩,h2⟩;have d1:G.size<=300:=by have d2:(⟨#[116]⟩:Ps).size=1:=rfl;rw[d2] at t;omega
    subst h2;dsimp only;refine af b (λ_=>⟨j.o.st.box.c2,j.o.c1⟩) ?_;clear b K;refine aF 11 (λK b=>?_);go_simp
    go_at_call 19
    refine (aM _ rb a cap bs (p+3) _ (L.length+2) (by push_cast;rfl) j.o.st.rd A7 A7 M).mono ?_;rintro e w7 ⟨O,rfl,k5,k6,k7⟩;have f:=Kz (j.o.drawn k6 k7);clear k6 k7;dsimp only;refine af b (λ_=>⟨f.o.st.box.c2,f.o.c1⟩) ?_;clear b K;clear d;have d:=(show _/\_ from ⟨f.o.st.box.c2,f.o.c1⟩);have p7:IntKind.i64.wrap ((O:Int)-1)= (O:Int)-1:=E8;refine cB 12 (.a ((O:Int)-1)) d ?_ ?_
    .intro u y;try dsimp only at y
     go_simp
     try with_reducible rfl
    try simp only[upP]
    refine ae 13 d ?_;refine aj 14 (λK b=>?_);go_simp
    have U:K_ w7 (w7.alloc (.cells #[.string G,.a ((O:Int)-1)] 231)):=ah _ _;have J:=Kz (f.o.kept U);have a2:=Kz U;refine af b (λ_=>⟨J.o.st.box.c2,J.o.c1⟩) ?_;clear b K;clear d U;obtain⟨ic,a4,z,A,a5⟩:=aS Tryz.qW;refine aj 15 (λK b=>?_);refine step_append_lies _ rfl (.tmp 122) (.tmp 135) 174 rfl I.heap.size 231 ic _ 2 24 underlying174 a4 z A a5 rfl A8 (.slice ac s.cases.length cc) s.cases.length (bA s.cases) D9 J.o.st.cases ⟨w7.heap.size,0,none⟩ 1 1 [.string G,.a ((O:Int)-1)] D9 rfl (λY u y=>by rw[OI];exact Xz w7 #[.string G,.a ((O:Int)-1)] 231 Y u (by simpa using y)) (λu y=>by simp at y;rcases y with rfl | rfl <;> rfl) A7 D5 A7 J.o.st.kb.size _ rfl ?_;intro g2 e8 w8 a6 S X b0;have E:=Kz (f.o.st.Ch a2.o S);have a9:=Kz (f.o.uh (x:=⟨G,(O:Int)-1⟩) a2.o a6 S (xB X) A7 ⟨d1,by show -1000<=(O:Int)-1;omega,by show (O:Int)-1<=1000;omega⟩);have b2:=Kz (f.o.Me a2.o S);have z6:=E.o.row.lt;have y6:=E.o.c2;obtain⟨_,f6⟩:=E.o.cell (o:=2) A7;clear a6 S X b0;refine af b (λ_=>⟨E.o.c2,b2.o⟩) ?_;clear b K;have d:=(show _/\_ from ⟨E.o.c2,b2.o⟩);refine ae 16 d ?_;refine aj 17 (λK b=>?_);go_simp
    refine af b (λh=>Pg rfl h) ?_;clear b K;refine aG ?_;go_wp2
    go_meet
    exact⟨cost,_,_,_,p+4,N,A7,A7,a9.o⟩
   .go_wp2_with fail
    refine (aM _ rb a cap bs (p+2) _ 2 rfl n.o.st.rd A7 A7 M).mono ?_;rintro e l ⟨q,rfl,hq,k,i⟩;have j:=Kz (n.o.drawn k i);clear k i e7 y5 y6 y3 f5 f6 h0 h1;go_wp2
    go_loopg [] (5+q-s.cases.length) (λgg wr=>∃(vc:Pw) (v:Xj),gg=5+q-v.cases.length/\eO (mN+10) I wr rb H.heap.size V.heap.size a cap bs (p+3) cost (.b g L.length B) L xs R (.slice aa s.asks.length ca) vc v)
    case atStart=>exact⟨_,s,rfl,j.o⟩
    case round=>
     clear j;obtain⟨vc,v,k8,hS⟩:=hrel;have F:=Kz hS;clear hS;obtain⟨h4,h5,rfl⟩:=ay F.o.st.cases;have y2:=F.o.st.box.c2;have yz:=F.o.st.box.row.lt;by_cases k9:(v.cases.length:Int)<5+ (q:Int)
     .have Z:K_ wr (wr.alloc (.cells #[.string ⟨#[118,48,40,41]⟩,.a 0] 231)):=ah _ _;have a0:=Kz Z;have b1:=Kz (F.o.kept Z).st.cases;have h6:I.heap.size<=(wr.alloc (.cells #[.string ⟨#[118,48,40,41]⟩,.a 0] 231)).heap.size:=(F.o.kept Z).st.kb.size;have h7:Hid (∀Y u,([.string ⟨#[118,48,40,41]⟩,.a 0]:List Pw)[Y]? =some u->(wr.alloc (.cells #[.string ⟨#[118,48,40,41]⟩,.a 0] 231)).cell? ((⟨wr.heap.size,0,none⟩:Addr).add Y)=some u):=λY u y=>by rw[OI];exact Xz wr #[.string ⟨#[118,48,40,41]⟩,.a 0] 231 Y u y
      have d4:Hid (∀u∈([.string ⟨#[118,48,40,41]⟩,.a 0]:List Pw),u.oneCell'=true):=λu y=>by simp at y;rcases y with rfl | rfl <;> rfl
      obtain⟨ic,a4,z,A,a5⟩:=aS Tryz.qW;clear Z;go_wp2_with (at_builtin;refine wpList_append_lies _ rfl (.tmp 149) (.tmp 151) 174 rfl I.heap.size 231 ic _ 2 24 underlying174 a4 z A a5 rfl A8 (.slice h4 v.cases.length h5) v.cases.length (bA v.cases) rfl b1.o ⟨wr.heap.size,0,none⟩ 1 1 [.string ⟨#[118,48,40,41]⟩,.a 0] rfl rfl h7.o d4.o A7 D5 A7 h6 _ rfl ?_;intro g2 e8 w2 c4 a7 X b0;have b3:=F.o.st.Ch a0.o a7;have y4:=b3.c2;have z2:=b3.row.lt;obtain⟨_,m6⟩:=b3.cell (o:=2) A7;have h8:=Kz c4;have h9:=Kz a7;have e9:=Kz X;clear c4 a7 b3 X b0)
      go_roundg (gk-1)
      case measure=>omega
      case rel=>exact⟨_,{v with cases:=v.cases++ [⟨⟨#[118,48,40,41]⟩,0⟩]},by show gk-1=5+q-(v.cases++ [_]).length;rw[OD];show gk-1=5+q-(v.cases.length+1);omega,F.o.uh (x:=⟨⟨#[118,48,40,41]⟩,0⟩) a0.o h8.o h9.o (xB e9.o) A7 ⟨A8,A8,A8⟩⟩
     .go_wp2
      go_meet
      exact⟨cost,_,_,v,p+3,N,A7,A7,F.o⟩
   .go_wp2_with fail
    refine (aM _ rb a cap bs (p+2) _ 2 rfl n.o.st.rd A7 A7 M).mono ?_;rintro e l ⟨q,rfl,hq,k,i⟩;have j:=Kz (n.o.drawn k i);clear k i e7 y5 y6 y3 f5 f6 h0 h1;go_wp2
    go_loopg [10] (5+q-s.asks.length) (λgg G wr=>∃(b4:Nat) (va:Pw) (v:Xj),G= .a (b4:Int)/\gg=5+q-v.asks.length/\b4+s.asks.length=v.asks.length/\eO (mN+10) I wr rb H.heap.size V.heap.size a cap bs (p+3) cost (.b g L.length B) L xs R va (.slice ac s.cases.length cc) v)
    case atStart=>exact⟨0,_,s,rfl,rfl,A7,j.o⟩
    case round=>
     clear j;obtain⟨b4,va,v,rfl,k8,hi,hS⟩:=hrel;have⟨F,HI⟩:=aH hS hi;clear hS hi;obtain⟨f1,f2,rfl⟩:=ay F.o.st.asks;have y2:=F.o.st.box.c0;have yz:=F.o.st.box.row.lt;by_cases k9:(v.asks.length:Int)<5+ (q:Int)
     .have m7:b4<10:=by have:=HI.o;omega
      have f3:=Kz (F.o.kept (bD wr));have Q:=f3.o.st.box.c0;go_upto_region 35 with fail
      refine Qx.region C9 (λw'=>w'.cell? ⟨V.heap.size,0,none⟩=some (.slice f1 v.asks.length f2)) 8 Q (λd=>?_);generalize a3:wr.drew=W at f3 d⊢;clear a3 Q;refine ae 0 d ?_;refine ae 1 d ?_;refine ae 2 d ?_;refine aF 3 (λK b=>?_);go_simp
      go_at_call 191
      refine (uE _ b4 m7).mono ?_;rintro e f4 ⟨i0,rfl,ht,l0⟩;have d5:=Kz (f3.o.kept l0);clear l0;dsimp only;refine af b (λ_=>d5.o.st.box.c0) ?_;clear b K;clear d f3;have d:=d5.o.st.box.c0;obtain⟨tx,l1⟩:∃tx:Ps,(⟨#[109,97,110,121]⟩:Ps)++i0=tx:=⟨_,rfl⟩;have m8:tx.size<=300:=by rw[<-l1,ByteArray.size_append];show 4+i0.size<=300;omega
      have f5:¬9223372036854775807<4+i0.size:=A7;refine cB 4 (.string tx) d ?_ ?_
      .intro u y;try dsimp only at y
       go_simp
       try with_reducible rfl
      try simp only[upP]
      clear l1 f5 ht;refine aj 5 (λK b=>?_);go_simp
      have U:K_ f4 (f4.alloc (.cells #[.string tx] 9)):=ah _ _;have i1:=Kz (d5.o.kept U);have a2:=Kz U;refine af b (λ_=>i1.o.st.box.c0) ?_;clear b K;clear U d;obtain⟨ic,a4,z,A,a5⟩:=aS Tryz.gM;refine aj 6 (λK b=>?_);refine step_append_lies _ rfl (.tmp 167) (.tmp 171) 26 rfl I.heap.size 9 ic _ 1 16 underlying26 a4 z A a5 rfl A8 (.slice f1 v.asks.length f2) v.asks.length (v.asks.map Value.string) D9 i1.o.st.asks ⟨f4.heap.size,0,none⟩ 1 1 [.string tx] D9 rfl (lK f4 tx) (kY tx) A7 D5 A7 i1.o.st.kb.size _ rfl ?_;intro g2 e8 w8 a6 S X b0;have E:=Kz (d5.o.st.uS a2.o S);have m9:=Kz (d5.o.qI (x:=tx) a2.o a6 S (xB X) A7 m8);have z6:=E.o.row.lt;have y6:=E.o.c0;obtain⟨_,f6⟩:=E.o.cell (o:=0) A7;clear a6 S X b0;refine af b (λ_=>E.o.c0) ?_;clear b K;have d:=E.o.c0;refine ae 7 d ?_;refine aj 8 (λK b=>?_);go_simp
      refine af b (λh=>Pg rfl h) ?_;clear b K;refine aG ?_;go_wp2
      go_roundg (gk-1)
      case measure=>omega
      case rel=>exact⟨b4+1,_,{v with asks:=v.asks++ [tx]},C8,by show gk-1=5+q-(v.asks++ [_]).length;rw[OD];show gk-1=5+q-(v.asks.length+1);omega,by show b4+1+s.asks.length= (v.asks++ [_]).length;rw[OD];have:=HI.o;show b4+1+s.asks.length=v.asks.length+1;omega,m9.o⟩
     .go_wp2
      go_meet
      exact⟨cost,_,_,v,p+3,N,A7,A7,F.o⟩
   .have i2:=Kz (n.o.act k3.o);go_wp2_with fail
    refine (aM _ rb a cap bs (p+2) _ 2 rfl i2.o.rd A7 A7 M).mono ?_;rintro e l ⟨q,rfl,hq,k,i⟩;have e9:=Kz (i2.o.drawn k i);clear k i e7 y5 y6 y3 f5 f6 h0 h1 i2;go_wp2
    go_loopg [] (20+q-L.length) (λgg wr=>∃(v':Pw) (L':List Xj) (i3:List Pw),gg=20+q-L'.length/\L'.length<=21/\jR (mN+10) I wr rb H.heap.size a cap bs (p+3) cost v' L' i3)
    case atStart=>exact⟨_,L,xs,rfl,hL,e9.o⟩
    case round=>
     clear e9;obtain⟨v',L',i3,k8,n0,hS⟩:=hrel;have F:=Kz hS;clear hS;obtain⟨av,c9,rfl⟩:=ay F.o.own;have y1:=F.o.c1;have yz:=F.o.row.lt;by_cases k9:(L'.length:Int)<20+ (q:Int)
     .have Z:K_ wr (wr.alloc (.cells #[J3,.a 0,J3,.a 0,.a 0,.bool true,.bool false,.string ⟨#[]⟩] 176)):=ah _ _;have a0:=Kz Z;have b1:=Kz (F.o.kept Z).own;have h6:I.heap.size<=(wr.alloc (.cells #[J3,.a 0,J3,.a 0,.a 0,.bool true,.bool false,.string ⟨#[]⟩] 176)).heap.size:=(F.o.kept Z).kb.size;have h7:Hid (∀Y u,([J3,.a 0,J3,.a 0,.a 0,.bool true,.bool false,.string ⟨#[]⟩]:List Pw)[Y]? =some u->(wr.alloc (.cells #[J3,.a 0,J3,.a 0,.a 0,.bool true,.bool false,.string ⟨#[]⟩] 176)).cell? ((⟨wr.heap.size,0,none⟩:Addr).add Y)=some u):=λY u y=>by rw[OI];exact Xz wr #[J3,.a 0,J3,.a 0,.a 0,.bool true,.bool false,.string ⟨#[]⟩] 176 Y u y
      have d4:Hid (∀u∈([J3,.a 0,J3,.a 0,.a 0,.bool true,.bool false,.string ⟨#[]⟩]:List Pw),u.oneCell'=true):=jm ⟨[],0,[],0,0,true,false,⟨#[]⟩⟩ none 0 none 0;obtain⟨ic,a4,z,A,a5⟩:=aS Tryz.kR;clear Z;go_wp2_with (at_builtin;refine wpList_append_own _ rfl (.tmp 185) (.tmp 187) 71 rfl I.heap.size 176 ic _ 8 96 underlying71 a4 z A a5 rfl A8 (.slice av L'.length c9) L'.length i3 rfl b1.o ⟨wr.heap.size,0,none⟩ 1 1 [J3,.a 0,J3,.a 0,.a 0,.bool true,.bool false,.string ⟨#[]⟩] rfl rfl h7.o d4.o D5 A7 h6 ?_;intro p8 w2 c4 a7 _;have b3:=F.o.fZ a0.o a7;have z2:=b3.2.lt;obtain⟨⟨_,y2⟩,m6⟩:=b3.2.row.at (i:=1) A7;have h8:=Kz c4;obtain⟨p9,q0,rfl⟩:=ay c4;have h9:=Kz a7;clear c4 a7 b3)
      go_roundg (gk-1)
      case measure=>omega
      case rel=>exact⟨_,L'++ [⟨[],0,[],0,0,true,false,⟨#[]⟩⟩],_,by rw[OD];show gk-1=20+q-(L'.length+1);omega,by rw[OD];show L'.length+1<=21;omega,F.o.push (s:=⟨[],0,[],0,0,true,false,⟨#[]⟩⟩) (cs:=[J3,.a 0,J3,.a 0,.a 0,.bool true,.bool false,.string ⟨#[]⟩]) a0.o ⟨none,0,none,0,rfl,.inl rfl,.inl rfl,NQ _⟩ ⟨A9,λG t=>by simp at t,⟨F6,F7⟩,A9,λG t=>by simp at t,n_ ⟨F6,F7⟩,⟨F6,F7⟩,A8⟩ (kM (s:=⟨[],0,[],0,0,true,false,⟨#[]⟩⟩) (λ_=>⟨rfl,rfl⟩) (λ_=>⟨rfl,rfl⟩)) h8.o h9.o⟩
     .have P:=Kz F.o.fin;have C:=Kz (d6.o.but P.o.kb A7);have o0:=P.o.c0;obtain⟨⟨_,x0⟩,g0⟩:=C.o.row.at (i:=0) A7;obtain⟨⟨_,x1⟩,g1⟩:=C.o.row.at (i:=1) A7;have xz:=C.o.lt;go_wp2_with fail
      have hR:=NU wr (w.heap.size+1) 0 [.a cost,.slice av L'.length c9] (C.o.row.there (o:=0) (m:=2) (NQ _));exact X_ [.a cost,.slice av L'.length c9] _ results164 rfl hR underlying73 rfl Tryz.iM rfl (P.o.ends C.o A7 k0 d7.o rfl A7 A7 n0 N)
   .have o1:=n.o.c1;have oz:=n.o.row.lt;obtain⟨_,fo⟩:=n.o.row.row.at (i:=1) A7;have P:=Kz n.o.cut;have C:=Kz (d6.o.but P.o.kb A7);have o0:=P.o.c0;have n1:=P.o.c1;have n2:=P.o.row.lt;obtain⟨⟨_,x0⟩,g0⟩:=C.o.row.at (i:=0) A7;obtain⟨⟨_,x1⟩,g1⟩:=C.o.row.at (i:=1) A7;have xz:=C.o.lt;have q1:(R:Int)<=(B:Int):=A7;go_wp2_with fail
    have hR:=NU (T.setCell ⟨H.heap.size,1,none⟩ (.b g R B)) (w.heap.size+1) 0 [.a cost,.b g R B] (C.o.row.there (o:=0) (m:=2) (NQ _));exact X_ [.a cost,.b g R B] _ results164 rfl hR underlying73 rfl Tryz.iM rfl (P.o.ends C.o A7 k0 d7.o rfl A7 A7 E9 N)
   .go_wp2
    go_meet
    exact⟨cost,_,_,_,p+2,N,A7,A7,n.o.els _ (in64_wrap64 _)⟩
  case rest=>
   clear n k3 e7;obtain⟨l2,va,vc,v,p',n3,q2,q3,hX⟩:=hcut;obtain⟨f1,f2,rfl⟩:=ay hX.st.asks;obtain⟨h4,h5,rfl⟩:=ay hX.st.cases;have n:=Kz hX;clear hX;have o1:=n.o.c1;have oz:=n.o.row.lt;have sz:=n.o.st.box.row.lt;obtain⟨cs,b7⟩:=ai (v.cells f1 f2 h4 h5);have f7:cs.length=8:=by rw[b7];rfl
   have l3:cs.toArray.all (·.oneCell')=true:=by rw[b7];exact Xj.one v _ _ _ _
   have l4:wc.rangeAt V.heap.size 0 cs:=by
    rw[b7];have hb:=n.o.st.box;intro Y G t;rw[Ow]
    match Y,t with
    | 0,t=>simp[Xj.cells] at t;subst t;exact hb.c0
    | 1,t=>simp[Xj.cells] at t;subst t;exact hb.c1
    | 2,t=>simp[Xj.cells] at t;subst t;exact hb.c2
    | 3,t=>simp[Xj.cells] at t;subst t;exact hb.c3
    | 4,t=>simp[Xj.cells] at t;subst t;exact hb.c4
    | 5,t=>simp[Xj.cells] at t;subst t;exact hb.c5
    | 6,t=>simp[Xj.cells] at t;subst t;exact hb.c6
    | 7,t=>simp[Xj.cells] at t;subst t;exact hb.c7
    | Y+8,t=>simp[Xj.cells] at t
   have n4:=Kz l4;have a7:aB wc g 176 (B*8):=by
    rcases n.o.own.2 with⟨e,_⟩|⟨g',c9,n5,e,_,n6,_,_,n7,_⟩
    .simp at e
    .simp only[OG,OE,Po,and_true,true_and] at e;obtain⟨rfl,rfl⟩:=e;exact⟨n5,n6,n7⟩
   have gz:=a7.lt;have l5:wc.there g (R*8) cs.toArray.size:=by simpa[f7] using a7.row.there (o:=R*8) (m:=8) A7
   have l6:(prog.info? 176).map (·.size)=some cs.toArray.size:=by rw[Tryz.AV];simp[f7]
   have l7:(prog.info? 176).map (·.size)=some cs.length:=by rw[Tryz.AV,f7]
   have⟨n8,n9,o2,d4⟩:=jW l6 l7 l5 l3;have i4:=n.o.store;rw[<-b7] at i4;have P:=Kz i4;have C:=Kz (d6.o.but P.o.kb A7);have o0:=P.o.c0;have n1:=P.o.c1;have n2:=P.o.row.lt;obtain⟨⟨_,x0⟩,g0⟩:=C.o.row.at (i:=0) A7;obtain⟨⟨_,x1⟩,g1⟩:=C.o.row.at (i:=1) A7;have xz:=C.o.lt;clear b7 f7 l3 l4 a7 l5 l6 l7 i4;go_wp2_with (first | (refine wpList_load_mid rfl 176 _ rfl V.heap.size 0 rfl cs _ n4.o underlying176 rfl n9.o ?_) | (refine wpList_store_mid rfl 176 _ _ rfl g (R*8) cs.toArray rfl rfl o2.o n8.o d4.o ?_;rw[List.toList_toArray]))
   have hR:=NU (wc.setCells g (R*8) cs) (w.heap.size+1) 0 [.a l2,.b g L.length B] (C.o.row.there (o:=0) (m:=2) (NQ _));refine X_ [.a l2,.b g L.length B] _ results164 rfl hR underlying73 rfl Tryz.iM rfl (P.o.ends C.o A7 k0 d7.o rfl A7 A7 (by rw[OZ];omega) n3)
structure fF where
 name:Ps
 over:Bool
 fail:Bool
 text:Ps
def fF.zero :fF:=⟨⟨#[]⟩,false,false,⟨#[]⟩⟩
def fF.cells(r:fF):List Pw:=[.string r.name,.bool r.over,.bool r.fail,.string r.text]
def oO(w:Pv)(a:Pt)(l:List fF):Prop:=
 ∀i,i<l.length->∃b o,a=some ⟨b,o,none⟩/\b<w.heap.size/\w.rangeAt b (o+i*4) (l.getD i fF.zero).cells
variable {l : List fF} {a : Pt}
theorem oO.kept{w w':Pv}(h:oO w a l)(k:K_ w w'):oO w' a l:=by
 intro i c;obtain⟨d,o,e,b,f⟩:=h i c;exact⟨d,o,e,NR b k.size,k.range b f⟩
def gU(w:Pv)(lo hi:Nat)(a:Pt)(l:List fF):Prop:=
 l=[]\/∃b,a=some ⟨b,0,none⟩/\lo<=b/\b<hi/\Row w b (l.length*4)/\∀i,i<l.length->w.rangeAt b (i*4) (l.getD i fF.zero).cells
theorem gU.same{w w':Pv}{lo hi:Nat}(h:gU w lo hi a l)(k:Same lo hi w w'):gU w' lo hi a l:=by
 rcases h with h|⟨b,f,c,d,e,i⟩
 .exact .inl h
 .exact .inr ⟨b,f,c,d,k.row c d e,λj hi=>k.range c d e.lt (i j hi)⟩
theorem gU.mono{w:Pv}{lo hi c d:Nat}(h:gU w lo hi a l)(j:c<=lo)(h2:hi<=d):gU w c d a l:=by
 rcases h with h|⟨b,e,k,m,f,i⟩
 .exact .inl h
 .exact .inr ⟨b,e,A7,A7,f,i⟩
theorem gU.Nn{w:Pv}{lo hi:Nat}(h:gU w lo hi a l):oO w a l:=by
 rcases h with rfl|⟨b,c,f,j,d,e⟩
 .intro i hi;simp at hi
 .intro i hi;exact⟨b,0,c,d.lt,by rw[Ow];exact e i hi⟩
theorem Fp(w:Pv)(a f:Pt)(cap j:Nat)(l:List Ps)(q:l.length<=1048576)(m:Strs w a l)(n:Strs w f l):
  Calls prog 52 #[.slice a l.length cap,.slice f l.length j] w λe w'=>e= .returned (.bool true)/\K_ w w':=by
 go_enter func52,ntmps52
 go_wp2
 go_loopw [5] (λi wr=>∃k:Nat,k<=l.length/\i= .a k/\K_ w wr) (λi _=>l.length-(intOf i).toNat)
 case atStart=>exact⟨0,NS _,rfl,K_.refl _⟩
 case round=>
  obtain⟨k,r,rfl,d⟩:=hrel;by_cases h:k<l.length
  .obtain⟨b,o,rfl,s,t⟩:=m.kept d k h;obtain⟨v,x,rfl,y,z⟩:=n.kept d k h;generalize l.getD k ByteArray.empty=c at *;have p:(k:Int)<(l.length:Int):=A7;go_wp2
   go_region
   all_goals
    go_wp2
    go_roundw
    case rel=>exact⟨k+1,A7,C8,I9⟩
    case measure=>simp[intOf];omega
  .have p:¬(k:Int)<(l.length:Int):=A7;go_wp2
   go_ret
   exact⟨rfl,d⟩
