import Derived.Test.YtbmhchdegdjfkaaGreatDoorKVBfs
import Derived.Deep.RegionLaw
import Derived.Deep.AppendLies
import Derived.Laws.AppendOwnNone
import Derived.Deep.CutBlock
set_option maxRecDepth 100000
set_option maxHeartbeats 25600000
namespace Go.Proofs.YtbmhchdegdjfkaaGreatDoor
open Go.RowKit Go.Proofs.Tryz
def yU(w:LP)(v:LQ)(L:List Xj):Prop:=∃base xs,w.ownsRow base 83 8 v L.length xs/\eH w 9 177 xs L/\jU xs
def p_(w w':LP)(rb:Nat)(a:LM)(cap:Nat)(bs:List UInt8)(p t:Nat)(e:Ending):Prop:=
 ∃(cost:Int) (v:LQ) (L:List Xj) (p':Nat),e= .returned (.agg #[.int .i64 cost,v])/\p<=p'/\p'<=p+t/\1<=L.length/\L.length<=20/\(-1000<=cost/\cost<=1000)/\(∀s∈L,s.Tiny)/\
  yU w' v L/\Rd w' rb a cap bs p'/\Xk rb (rb+1) w w'
variable {bs : List UInt8} {cap p rb : Nat} {a : LM} {w w1 : LP}
theorem ASt.made{p0:Nat}(d:Rd w rb a cap bs p0)(h:Rd w1 rb a cap bs p)(k:Xk rb (rb+1) w w1)(cost:Int):
  ASt w (w1.alloc (.cells #[.int .i64 cost,.slice none 0 0] 77)) rb w1.heap.size a cap bs p cost (.slice none 0 0) [] []:=by
 have b:=Xz w1 #[.int .i64 cost,.slice none 0 0] 77;have c:K_ w1 (w1.alloc (.cells #[.int .i64 cost,.slice none 0 0] 77)):=ag _ _;exact⟨h.kept c,⟨p0,d⟩,k.size,k.eP c,aC.made w1 _ _,b 0 _ rfl,b 1 _ rfl,Ld _ _ _ _,eH.nil _ _ _,fun s e=>by simp at e,fun n i f=>by simp at f⟩
theorem SSt.made{W:LP}(h:Rd W rb a cap bs p){els fall:Int}(e: -1000<=els/\els<=1000)(f: -1000<=fall/\fall<=1000):
  SSt W (W.alloc (.cells #[.slice none 0 0,.int .i64 0,.slice none 0 0,.int .i64 els,.int .i64 fall,.bool false,.bool false,.string ⟨#[]⟩] 83)) rb W.heap.size a cap bs p (.slice none 0 0) (.slice none 0 0) ⟨[],0,[],els,fall,false,false,⟨#[]⟩⟩:=by
 have d:K_ W (W.alloc (.cells #[.slice none 0 0,.int .i64 0,.slice none 0 0,.int .i64 els,.int .i64 fall,.bool false,.bool false,.string ⟨#[]⟩] 83)):=ag _ _;exact⟨h.kept d,⟨p,h⟩,JP _,.aF d,cZ.made W els fall,Ld _ _ _ _,Ld _ _ _ _,⟨by simp,fun x b=>by simp at b,⟨by show (-1000:Int)<=0;omega,by show (0:Int)<=1000;omega⟩,by simp,fun x b=>by simp at b,mH e,f,by show (⟨#[]⟩:LK).size<=300;decide⟩⟩
theorem Bo(w:LP)(a:LM)(c m:Nat)(l:List LK)(d:l.length=m)(n:l.length<=1000)(f:∀s∈l,s.size<=1000)(h:Strs w a l):
  Calls prog 84 #[.slice a m c] w fun e w'=>(∃b:Bool,e= .returned (.bool b))/\K_ w w':=by
 subst d;refine (kP w a c l (by unfold maxLen;omega) (fun s i=>by have:=f s i;unfold maxLen;omega) h).mono ?_;rintro e w' ⟨⟨r,rfl,_⟩,k⟩;exact⟨⟨r,rfl⟩,k⟩
theorem iH(w:LP)(x:LK):∀j u,([.string x]:List LQ)[j]? =some u->(w.alloc (.cells #[.string x] 9)).cell? ((⟨w.heap.size,0,none⟩:Addr).add j)=some u:=fun j u a=>by
 rw[KZ];exact Xz w #[.string x] 9 j u a
theorem iq(x:LK):∀u∈([.string x]:List LQ),u.oneCell'=true:=fun u a=>by simp at a;subst a;rfl
variable {xs : List LQ} {v : LQ} {A0 : LP}
theorem ji.ends{b:LP}{q:Nat}{d t:Nat}{cost:Int}{f:List Xj}{e:Ending}(h:ji 20 A0 b rb q a cap bs d cost v f xs)(i:aC b w.heap.size 77 2)(c:K_ w A0){r:Nat}(s:Rd w rb a cap bs r)
 (x:e= .returned (.agg #[.int .i64 cost,v])) (y:p<=d) (h2:d<=p+t) (A:1<=f.length) (B:f.length<=20) (C: -1000<=cost/\cost<=1000):p_ w ((b.setCell ⟨w.heap.size,0,none⟩ (.int .i64 cost)).setCell ⟨w.heap.size,1,none⟩ v) rb a cap bs p t e:=by
 have D:=i.same (o:=0) (.int .i64 cost);have E:=(i.set (o:=0) (.int .i64 cost)).same (o:=1) v;have j:=D.trans E;have k:Below w.heap.size b ((b.setCell ⟨w.heap.size,0,none⟩ (.int .i64 cost)).setCell ⟨w.heap.size,1,none⟩ v):=((Below.refl _ _).setCell (p:=⟨w.heap.size,0,none⟩) (JP _) _).setCell (p:=⟨w.heap.size,1,none⟩) (JP _) _;have l:Xk rb (rb+1) w b:=⟨h.kb.os.trans c.os,h.kb.tape.trans c.tape,h.kb.output.trans c.output,JS c.size h.kb.size,fun m n F=>(h.kb.block m (JQ n c.size) F).trans (c.block m n)⟩;exact⟨cost,v,f,d,x,y,h2,A,B,C,h.tiny,⟨_,xs,aJ h.own j (by decide),h.pack.same j (by decide) (by decide),h.ng⟩,h.rd.below s k l.size,l.below k⟩
def JE(A0:LP)(ab rb:Nat)(a:LM)(cap:Nat)(bs:List UInt8)(p:Nat)(s8:LQ)(wx:LP):Prop:=
 ∃(n1:Nat) (cost:Int) (p':Nat),s8= .int .i64 (1+ (n1:Int))/\n1<=3/\(1<=cost/\cost<=20)/\p<=p'/\p'<=p+4/\ASt A0 wx rb ab a cap bs p' cost (.slice none 0 0) [] []
def IZ(A0:LP)(ab rb:Nat)(a:LM)(cap:Nat)(bs:List UInt8)(p:Nat)(s7:LQ)(wx:LP):Prop:=
 ∃(cost:Int),s7= .pointer (some ⟨ab,0,none⟩)/\(1<=cost/\cost<=20)/\ASt A0 wx rb ab a cap bs (p+2) cost (.slice none 0 0) [] []
theorem Au{a:Addr}{l:List LK}(h:Strs w (some a) l):∀j u,(l.map Value.string)[j]? =some u->w.cell? (a.add j)=some u:=by
 intro j u b;rw[List.getElem?_map] at b;obtain⟨x,d,rfl⟩:=Option.map_eq_some_iff.1 b;obtain⟨c,f⟩:=JW.1 d;obtain⟨k,m,e,_,i⟩:=h j c;simp only[KT] at e;subst e;rw[KZ,i];simp[List.getD,c,f]
theorem yX{a:Addr}{l:List bK}(h:kv w (some a) l):∀j u,(aY l)[j]? =some u->w.cell? (a.add j)=some u:=by
 intro j u b;have k:j<l.length*2:=by rw[<-ib];exact (JW.1 b).1
 have c:j / 2<l.length:=by omega
 have e:=kF l (j / 2) (j % 2) c (by omega);rw[show j / 2*2+j % 2=j by omega,b] at e;obtain⟨m,d,f,_,i⟩:=h (j / 2) c;simp only[KT] at f;subst f;have:=i (j % 2) u e.symm;rw[KZ];rw[show d+j / 2*2+j % 2=d+j by omega] at this;exact this
def jN(w:LP)(a:LM)(l:List Xj):Prop:=
 ∀i,i<l.length->∃b o aa ca ac cc,a=some ⟨b,o,none⟩/\b<w.heap.size/\w.rangeAt b (o+i*8) ((l.getD i Xj.zero).cells aa ca ac cc)/\Strs w aa (l.getD i Xj.zero).asks/\kv w ac (l.getD i Xj.zero).cases/\
  (aa=none->(l.getD i Xj.zero).asks.length=0/\ca=0)/\(ac=none->(l.getD i Xj.zero).cases.length=0/\cc=0)
variable {l : List Xj} {w' : LP}
theorem jN.kept(h:jN w a l)(k:K_ w w'):jN w' a l:=by
 intro i c;obtain⟨d,o,e,f,j,m,n,b,p,q,r,s,t⟩:=h i c;exact⟨d,o,e,f,j,m,n,JQ b k.size,k.range b p,q.kept k,r.kept k,s,t⟩
def iC(w:LP)(base:Nat)(cs:List LQ)(s:Xj):Prop:=
 ∃aa ca ac cc,cs=s.cells aa ca ac cc/\w.ownsRow base 9 1 (.slice aa s.asks.length ca) s.asks.length (s.asks.map Value.string)/\w.ownsRow base 177 2 (.slice ac s.cases.length cc) s.cases.length (aY s.cases)
variable {cs : List LQ} {s : Xj} {u : TypeId}
theorem iC.same{base:Nat}(h:iC w base cs s)(k:ay u w w')(a:9≠u)(h2:177≠u):iC w' base cs s:=by
 obtain⟨b,c,d,e,f,i,j⟩:=h;exact⟨b,c,d,e,f,aJ i k a,aJ j k h2⟩
theorem iC.base{base base':Nat}(h:iC w base cs s)(a:base'<=base):iC w base' cs s:=by
 obtain⟨b,c,d,e,f,i,j⟩:=h;exact⟨b,c,d,e,f,bC i a,bC j a⟩
theorem iC.step{base:Nat}(h:iC w base cs s):kN w 9 177 cs s:=by
 obtain⟨k,l,m,n,e,c,d⟩:=h;obtain⟨p,q,a,f,i⟩:=bg c;obtain⟨r,t,b,j⟩:=kM d;simp only[KX,true_and] at a b;obtain⟨rfl,rfl⟩:=a;obtain⟨rfl,rfl⟩:=b;exact⟨_,_,_,_,e,i,j,f⟩
theorem iC.ng{base:Nat}(h:iC w base cs s):jU cs:=by
 obtain⟨c,d,f,i,rfl,a,b⟩:=h;exact jH (fun e=>by subst e;exact iy a) (fun e=>by subst e;exact iy b)
def vD(cs:List LQ):Option Nat:=(cs.getD 0 undef).ownBlock
def qy(cs:List LQ):Option Nat:=(cs.getD 2 undef).ownBlock
theorem iC.Bz{base:Nat}(h:iC w base cs s):(∀b,vD cs=some b->base<=b/\b<w.heap.size)/\∀b,qy cs=some b->base<=b/\b<w.heap.size:=by
 obtain⟨e,f,i,j,rfl,c,d⟩:=h;exact⟨fun b a=>c.lt b a,fun b a=>d.lt b a⟩
def kJ(xs:List LQ)(i:Nat):List LQ:=(xs.drop (i*8)).take 8
structure dU (w:LP) (base:Nat) (xs:List LQ) (l:List Xj):Prop where
 len:xs.length=l.length*8
 each:∀i,i<l.length->iC w base (kJ xs i) (l.getD i Xj.zero)
 apart:∀i j,i<l.length->j<l.length->i≠j->(∀b,vD (kJ xs i)=some b->vD (kJ xs j)≠some b)/\∀b,qy (kJ xs i)=some b->qy (kJ xs j)≠some b
theorem dU.nil(w:LP)(base:Nat):dU w base [] []:=⟨rfl,fun i a=>by simp at a,fun i j a=>by simp at a⟩
theorem dU.same{base:Nat}(h:dU w base xs l)(k:ay u w w')(b:9≠u)(h2:177≠u):dU w' base xs l:=
 ⟨h.len,fun i d=>(h.each i d).same k b h2,h.apart⟩
theorem dU.packed{base:Nat}(h:dU w base xs l):eH w 9 177 xs l:=⟨h.len,fun i c=>(h.each i c).step⟩
theorem dU.push{base H:Nat}(m:dU w base xs l)(d:iC w H cs s)(a:base<=H)(k:∀i,i<l.length->(∀b,vD (kJ xs i)=some b->b<H)/\∀b,qy (kJ xs i)=some b->b<H):dU w base (xs++cs) (l++ [s]):=by
 have p:cs.length=8:=by obtain⟨_,_,_,_,rfl,_⟩:=d;rfl
 have n:=m.len;have old:∀i,i<l.length->kJ (xs++cs) i=kJ xs i/\(l++ [s]).getD i Xj.zero=l.getD i Xj.zero:=by
  intro i h;refine⟨?_,by simp[List.getD,Lh h]⟩;unfold kJ;rw[List.drop_append_of_le_length (by omega),List.take_append_of_le_length (by rw[List.length_drop];omega)]
 have new:kJ (xs++cs) l.length=cs/\(l++ [s]).getD l.length Xj.zero=s:=by
  refine⟨?_,by simp[List.getD]⟩;unfold kJ;rw[<-n,List.drop_left,KJ (by omega)]
 refine⟨by simp only[KS,KY,List.length_nil,n,p];omega,fun i h=>?_,fun i j h q r=>?_⟩
 ·by_cases e:i<l.length
  ·rw[(old i e).1,(old i e).2];exact m.each i e
  ·obtain rfl:i=l.length:=by simp at h;omega
   rw[new.1,new.2];exact d.base a
 ·simp only[KS,KY,List.length_nil] at h q;by_cases e:i<l.length
  ·by_cases f:j<l.length
   ·rw[(old i e).1,(old j f).1];exact m.apart i j e f r
   ·obtain rfl:j=l.length:=by omega
    rw[(old i e).1,new.1];exact⟨fun b a c=>by have:=(k i e).1 b a;have:=(d.Bz.1 b c).1;omega,fun b a c=>by have:=(k i e).2 b a;have:=(d.Bz.2 b c).1;omega⟩
  ·obtain rfl:i=l.length:=by omega
   have f:j<l.length:=by omega
   rw[new.1,(old j f).1];exact⟨fun b a c=>by have:=(k j f).1 b c;have:=(d.Bz.1 b a).1;omega,fun b a c=>by have:=(k j f).2 b c;have:=(d.Bz.2 b a).1;omega⟩
structure CSt (w wr:LP) (a:LM) (n cap:Nat) (cost:Int) (v:LQ) (L:List Xj) (xs:List LQ):Prop where
 kept:K_ w wr
 Iz:aC wr w.heap.size 77 2
 arg:wr.cell? ⟨w.heap.size,1,none⟩=some (.slice a n cap)
 res:aC wr (w.heap.size+1) 77 2
 out:aC wr (w.heap.size+2) 77 2
 o0:wr.cell? ⟨w.heap.size+2,0,none⟩=some (.int .i64 cost)
 o1:wr.cell? ⟨w.heap.size+2,1,none⟩=some v
 own:wr.ownsRow w.heap.size 83 8 v L.length xs
 pack:dU wr w.heap.size xs L
variable {L : List Xj} {n : Nat} {wr : LP}
theorem CSt.aF{cost:Int}(h:CSt w wr a n cap cost v L xs)(k:K_ wr w'):CSt w w' a n cap cost v L xs:=
 ⟨h.kept.trans k,h.Iz.kept k,(k.cell h.Iz.lt).trans h.arg,h.res.kept k,h.out.kept k,(k.cell h.out.lt).trans h.o0,(k.cell h.out.lt).trans h.o1,ai h.own k,h.pack.same (u:=90) (ay.aF k) (by decide) (by decide)⟩
variable {w2 : LP}
theorem CSt.fe{cost:Int}(h:CSt w wr a n cap cost v L xs)(f:K_ wr w1)(i:w1.grownBy w2 v.ownBlock):w2.cell? ⟨w.heap.size+2,1,none⟩=some v/\aC w2 (w.heap.size+2) 77 2:=by
 have b:=h.aF f;have j:ay 83 w1 w2:=ay.aI b.own i;obtain⟨c,d,k⟩:=b.out;have e:=j _ c _ _ (by decide) d;exact⟨by rw[Ke (w:=w1) (e.trans d.symm)];exact b.o1,c,e,k⟩
variable {v' : LQ}
theorem CSt.push{f:LP}{cost:Int}(h:CSt w wr a n cap cost v L xs)(x:K_ wr f)(i:K_ f w1)(y:iC f wr.heap.size cs s)
 (A:w2.ownsRow w.heap.size 83 8 v' (L.length+1) (xs++cs)) (j:w1.grownBy w2 v.ownBlock):CSt w (w2.setCell ⟨w.heap.size+2,1,none⟩ v') a n cap cost v' (L++ [s]) (xs++cs):=by
 have b:=h.aF (x.trans i);have k:ay 83 w1 w2:=ay.aI b.own j;have row:∀c,aC w1 c 77 2->aC w2 c 77 2/\∀o,w2.cell? ⟨c,o,none⟩=w1.cell? ⟨c,o,none⟩:=by
  intro c B;obtain⟨l,m,C⟩:=B;have d:=k _ l _ _ (by decide) m;exact⟨⟨l,d,C⟩,fun o=>Ke (w:=w1) (d.trans m.symm)⟩
 have p:=row _ b.Iz;have D:=row _ b.res;have e:=row _ b.out;have q:=e.1.same (o:=1) v';have E:=h.kept.size;have F:dU w1 w.heap.size (xs++cs) (L++ [s]):=b.pack.push (y.same (u:=90) (ay.aF i) (by decide) (by decide)) E (fun r t=>⟨fun c d=>((h.pack.each r t).Bz.1 c d).2,fun c d=>((h.pack.each r t).Bz.2 c d).2⟩);refine⟨(aG b.kept (JP _) b.own j).setCell (by simp) _,p.1.block (Below.heap_setCell _ _ _ _ (by simp)), ?_,D.1.block (Below.heap_setCell _ _ _ _ (by simp)),e.1.set _,(Xx (by omega) _).trans ((e.2 0).trans b.o0),bG e.1.row (by omega) _, ?_,(F.same k (by decide) (by decide)).same q (by decide) (by decide)⟩
 ·rw[Kn _ _ _ _ (by simp)];exact (p.2 1).trans b.arg
 ·have:=aJ A q (by decide);simpa using this
def CS1(wr wx:LP)(s:Xj)(v1 v2:LQ):Prop:=K_ wr wx/\cZ wx wr.heap.size v1 v2 s/\wx.ownsRow wr.heap.size 9 1 v1 s.asks.length (s.asks.map Value.string)
def CS2(wr wx:LP)(s:Xj)(v1 v2:LQ):Prop:=CS1 wr wx s v1 v2/\wx.ownsRow wr.heap.size 177 2 v2 s.cases.length (aY s.cases)
def Jj(w w':LP)(cost:Int)(L:List Xj)(e:Ending):Prop:=
 ∃(v:LQ) (xs:List LQ),e= .returned (.agg #[.int .i64 cost,v])/\w'.ownsRow w.heap.size 83 8 v L.length xs/\dU w' w.heap.size xs L/\K_ w w'
theorem cZ.copied(w:LP)(s:Xj)(b:LM)(c:Nat)(d:LM)(e:Nat):cZ (w.alloc (.cells #[.slice b s.asks.length c,.int .i64 s.on,.slice d s.cases.length e,.int .i64 s.els,.int .i64 s.fall,.bool s.fin,.bool s.bad,.string s.give] 83)) w.heap.size (.slice b s.asks.length c) (.slice d s.cases.length e) s:=by
 have f:=Xz w #[.slice b s.asks.length c,.int .i64 s.on,.slice d s.cases.length e,.int .i64 s.els,.int .i64 s.fall,.bool s.fin,.bool s.bad,.string s.give] 83;have a:∀j v,(#[.slice b s.asks.length c,.int .i64 s.on,.slice d s.cases.length e,.int .i64 s.els,.int .i64 s.fall,.bool s.fin,.bool s.bad,.string s.give]:Array LQ).toList[j]? =some v->(w.alloc (.cells #[.slice b s.asks.length c,.int .i64 s.on,.slice d s.cases.length e,.int .i64 s.els,.int .i64 s.fall,.bool s.fin,.bool s.bad,.string s.give] 83)).cell? ⟨w.heap.size,j,none⟩=some v:=fun j v h=>by
  have:=f j v h;rw[KH] at this;exact this
 exact⟨aC.made w _ _,a 0 _ rfl,a 1 _ rfl,a 2 _ rfl,a 3 _ rfl,a 4 _ rfl,a 5 _ rfl,a 6 _ rfl,a 7 _ rfl⟩
variable {xs0 : List LQ} {n0 : Nat} {u0 v0 : LQ} {W1 : LP}
theorem CS1.mk'{v1 v2:LQ}(e:K_ wr W1)(f:cZ W1 wr.heap.size v0 v2 s)(a:K_ W1 w1)(b:w1.ownsRow wr.heap.size 9 1 u0 n0 xs0)(c:w1.grownBy w2 u0.ownBlock)
 (h:w2.ownsRow wr.heap.size 9 1 v1 s.asks.length (s.asks.map Value.string)):CS1 wr (w2.setCell ⟨wr.heap.size,0,none⟩ v1) s v1 v2:=by
 have d:cZ w2 wr.heap.size v0 v2 s:=(f.kept a).same (ay.aI b c) (by decide);exact⟨(aG (e.trans a) (JP _) b c).setCell (JP _) _,d.asks v1 s.asks,aJ h (d.row.same _) (by decide)⟩
theorem CS1.box{v2:LQ}(a:cZ W1 wr.heap.size v0 v2 s)(b:K_ W1 w1)(c:w1.ownsRow wr.heap.size 9 1 u0 n0 xs0)(d:w1.grownBy w2 u0.ownBlock):cZ w2 wr.heap.size v0 v2 s:=
 (a.kept b).same (ay.aI c d) (by decide)
theorem CS2.mk'{v1 v2:LQ}(h:CS1 wr W1 s v1 v0)(a:K_ W1 w1)(c:w1.ownsRow wr.heap.size 177 2 u0 n0 xs0)(d:w1.grownBy w2 u0.ownBlock)
 (f:w2.ownsRow wr.heap.size 177 2 v2 s.cases.length (aY s.cases)):CS2 wr (w2.setCell ⟨wr.heap.size,2,none⟩ v2) s v1 v2:=by
 obtain⟨i,j,k⟩:=h;have e:=ay.aI c d;have b:cZ w2 wr.heap.size v1 v0 s:=(j.kept a).same e (by decide);exact⟨⟨(aG (i.trans a) (JP _) c d).setCell (JP _) _,b.cases v2 s.cases,aJ (aJ (ai k a) e (by decide)) (b.row.same _) (by decide)⟩,aJ f (b.row.same _) (by decide)⟩
theorem CS2.box{v1:LQ}(h:CS1 wr W1 s v1 v0)(b:K_ W1 w1)(c:w1.ownsRow wr.heap.size 177 2 u0 n0 xs0)(d:w1.grownBy w2 u0.ownBlock):cZ w2 wr.heap.size v1 v0 s:=
 (h.2.1.kept b).same (ay.aI c d) (by decide)
theorem uL(w:LP)(r:Option Nat):w.grownBy w r:=⟨rfl,rfl,rfl,JP _,fun _ _ _=>rfl⟩
theorem AP(w:LP){base:Nat}(a:base<=w.heap.size)(t:TypeId)(size:Nat):(w.alloc (.cells #[] t)).ownsRow base t size (.slice (some ⟨w.heap.size,0,none⟩) 0 0) 0 []:=
 KG w #[] 0 a (JR _) (by simp)
theorem Bl(w:LP)(cost:Int)(a:LM)(v:Nat)(l:List Xj)(hl:l.length<=1000){mN:Nat}(f7:mN<=1000)(hs:∀s∈l,s.TinyN mN)(hS:jN w a l):
  Calls prog 124 #[.agg #[.int .i64 cost,.slice a l.length v]] w fun e w'=>Jj w w' cost l e:=by
 go_enter func124,ntmps124
 go_wp2
 have k0:K_ w (((w.alloc (.cells #[.int .i64 cost,.slice a l.length v] 77)).alloc (.cells #[.int .i64 0,.slice none 0 0] 77)).alloc (.cells #[.int .i64 cost,.slice none 0 0] 77)):=((ag _ _).alloc _).alloc _;go_loopg [4] l.length (fun g b6 wr=>∃(k:Nat) (b2:LQ) (E:List LQ),k+g=l.length/\b6= .int .i64 k/\CSt w wr a l.length v cost b2 (l.take k) E)
 case atStart=>
  have Z:=Xz ((w.alloc (.cells #[.int .i64 cost,.slice a l.length v] 77)).alloc (.cells #[.int .i64 0,.slice none 0 0] 77)) #[.int .i64 cost,.slice none 0 0] 77;simp only[KR] at Z;refine⟨0,.slice none 0 0,[],by omega,rfl,⟨k0, ?_, ?_, ?_, ?_,Z 0 _ rfl,Z 1 _ rfl,Ld _ _ _ _,dU.nil _ _⟩⟩
  ·exact aC.kept (aC.made w #[.int .i64 cost,.slice a l.length v] 77) ((ag _ _).alloc _)
  ·rw[K_.cell (w:=w.alloc (.cells #[.int .i64 cost,.slice a l.length v] 77)) ((ag _ _).alloc _) (by simp)];exact Xz w _ _ 1 _ rfl
  ·exact aC.kept (by have:=aC.made (w.alloc (.cells #[.int .i64 cost,.slice a l.length v] 77)) #[.int .i64 0,.slice none 0 0] 77;simpa using this) (ag _ _)
  ·have:=aC.made ((w.alloc (.cells #[.int .i64 cost,.slice a l.length v] 77)).alloc (.cells #[.int .i64 0,.slice none 0 0] 77)) #[.int .i64 cost,.slice none 0 0] 77;simpa using this
 case round=>
  clear k0;obtain⟨k,b2,E,hk,rfl,S⟩:=hrel;have b:=Kz S;have p1:=S.arg;have zp:=S.Iz.lt;clear S;by_cases T:k<l.length
  ·obtain⟨f8,o,U,V,F,G,rfl,hb,i,hA,a0,A,B⟩:=(hS.kept b.o.kept) k T;have H:=hs (l.getD k Xj.zero) (by simp[List.getD,T]);obtain⟨s,a1⟩:=aj (l.getD k Xj.zero);rw[<-a1] at i hA a0 H A B;have b7:=Kz a1;clear a1;have c0:=i 0 _ rfl;have c1:=i 1 _ rfl;have c2:=i 2 _ rfl;have c3:=i 3 _ rfl;have c4:=i 4 _ rfl;have c5:=i 5 _ rfl;have c6:=i 6 _ rfl;have c7:=i 7 _ rfl;rw[La] at c0;clear i;have⟨HA,b8⟩:=aH hA a0;have x:=Kz (cZ.copied wr s U V F G);have y:Hid (K_ wr (wr.alloc (.cells #[.slice U s.asks.length V,.int .i64 s.on,.slice F s.cases.length G,.int .i64 s.els,.int .i64 s.fall,.bool s.fin,.bool s.bad,.string s.give] 83))):=ag _ _;have b9:=H.asks;have c8:=H.cases;have f9:=Kz H;clear hA a0 H;have g0:(k:Int)<l.length:=by omega
   go_upto_region 6 with fail
   obtain⟨I,b3⟩:=aj (wr.alloc (.cells #[.slice U s.asks.length V,.int .i64 s.on,.slice F s.cases.length G,.int .i64 s.els,.int .i64 s.fall,.bool s.fin,.bool s.bad,.string s.give] 83));rw[<-b3] at x y⊢;clear b3 c0 c1 c2 c3 c4 c5 c6 c7 p1;have y0:=x.o.c0;have J:=x.o.row.lt;have c9:=y.o.size;obtain⟨_,f0⟩:=x.o.cell (o:=0) (by omega);obtain⟨ia,d0,d1,d2,d3⟩:=aN Tryz.d_;obtain⟨ic,d4,d5,d6,d7⟩:=aN Tryz.oQ;have c:=Kz (AP I (base:=wr.heap.size) y.o.size 9 1);have d:Hid (K_ I (I.alloc (.cells #[] 9))):=ag _ _;go_cut [5] from 9 to 36 (fun s5 wx=>∃W,s5= .pointer (some ⟨wr.heap.size,0,none⟩)/\CS1 wr wx s W (.slice F s.cases.length G))
   case first=>
    rcases U with _|ad
    ·obtain⟨C,K⟩:=A rfl;have a2:Hid (s.asks=[]):=LB C;rw[C,K] at y0;clear A B b9 C K;go_wp2
     go_meet
     rw[<-World.setCell_alloc_past _ _ _ _ J];exact⟨_,rfl,CS1.mk' y.o x.o d.o c.o (uL _ _) (by rw[a2.o];exact c.o)⟩
    ·have L:=Kz (Au ((HA.o.kept y.o).kept d.o));have a3:wr.heap.size<=(I.alloc (.cells #[] 9)).heap.size:=(y.o.trans d.o).size;clear A B;go_wp2_with (at_builtin;refine wpList_append_own _ rfl (.tmp 21) (.tmp 23) 26 rfl wr.heap.size 9 ia _ 1 16 underlying26 d0 d1 d2 d3 rfl (by decide) (.slice (some ⟨I.heap.size,0,none⟩) 0 0) 0 [] rfl c.o ad s.asks.length V (s.asks.map Value.string) rfl (by simp) L.o (uR _) (by unfold maxLen;omega) (by omega) a3 ?_;intro W w2 n D _;rw[KH,List.nil_append] at n;obtain⟨d8,d9,rfl⟩:=ax n;have f:=CS1.box x.o d.o c.o D;have M:=f.c0;have z2:=f.row.lt;obtain⟨_,X⟩:=f.cell (o:=0) (by omega);have a4:=Kz n;have a5:=Kz D;clear n D f)
     go_meet
     exact⟨_,rfl,CS1.mk' y.o x.o d.o c.o a5.o a4.o⟩
   case rest=>
    clear c d y0 J f0 c9;obtain⟨W,rfl,h1⟩:=hcut;obtain⟨N,rfl⟩:=aj wc;have j:=Kz h1;clear h1 x y;have M:=j.o.2.1.c2;have J:=j.o.2.1.row.lt;obtain⟨_,X⟩:=j.o.2.1.cell (o:=2) (by omega);have c:=Kz (AP N (base:=wr.heap.size) j.o.1.size 177 2);have d:Hid (K_ N (N.alloc (.cells #[] 177))):=ag _ _;go_upto_region 7 with fail
    go_cut [5] from 9 to 36 (fun s5 wx=>∃v2,s5= .pointer (some ⟨wr.heap.size,0,none⟩)/\CS2 wr wx s W v2)
    case first=>
     rcases F with _|ad
     ·obtain⟨C,K⟩:=B rfl;have a2:Hid (s.cases=[]):=LB C;rw[C,K] at M;clear A B c8 C K;go_wp2
      go_meet
      rw[<-World.setCell_alloc_past _ _ _ _ J];exact⟨_,rfl,CS2.mk' j.o d.o c.o (uL _ _) (by rw[a2.o];exact c.o)⟩
     ·have L:=Kz (yX ((b8.o.kept j.o.1).kept d.o));have a3:wr.heap.size<=(N.alloc (.cells #[] 177)).heap.size:=(j.o.1.trans d.o).size;clear A B;go_wp2_with (at_builtin;refine wpList_append_own _ rfl (.tmp 26) (.tmp 28) 81 rfl wr.heap.size 177 ic _ 2 24 underlying81 d4 d5 d6 d7 rfl (by decide) (.slice (some ⟨N.heap.size,0,none⟩) 0 0) 0 [] rfl c.o ad s.cases.length G (aY s.cases) rfl (ib _) L.o (uP _) (by unfold maxLen;omega) (by omega) a3 ?_;intro v2 w2 n D _;rw[KH,List.nil_append] at n;obtain⟨d8,d9,rfl⟩:=ax n;have f:=CS2.box j.o d.o c.o D;have M:=f.c2;have z2:=f.row.lt;obtain⟨_,X⟩:=f.cell (o:=2) (by omega);have a4:=Kz n;have a5:=Kz D;clear n D f)
      go_meet
      exact⟨_,rfl,CS2.mk' j.o d.o c.o a5.o a4.o⟩
    case rest=>
     clear c d M J X j;obtain⟨v2,rfl,h2⟩:=hcut;obtain⟨⟨k4,h,a6⟩,a7⟩:=h2;obtain⟨p,q,rfl⟩:=ax a6;obtain⟨r,t,rfl⟩:=ax a7;have e0:Hid (iC wc wr.heap.size (s.cells p q r t) s):=⟨p,q,r,t,rfl,a6,a7⟩;have⟨g1,a8⟩:=aH h k4;clear a6 a7;have c0:=h.c0;have c1:=h.c1;have c2:=h.c2;have c3:=h.c3;have c4:=h.c4;have c5:=h.c5;have c6:=h.c6;have c7:=h.c7;have cz:=h.row.lt;clear h k4;have O:=b.o.aF a8.o;obtain⟨e1,e2,rfl⟩:=ax b.o.own;have o1:=O.o1;have oz:=O.out.lt;have P:K_ wc (wc.alloc (.cells #[.slice p s.asks.length q,.int .i64 s.on,.slice r s.cases.length t,.int .i64 s.els,.int .i64 s.fall,.bool s.fin,.bool s.bad,.string s.give] 83)):=ag _ _;have e3:=Kz P;have b4:=Kz (O.aF P).own;have e4:=Kz (O.aF P).kept.size;have b5:∀Y u,(s.cells p q r t)[Y]? =some u->(wc.alloc (.cells #[.slice p s.asks.length q,.int .i64 s.on,.slice r s.cases.length t,.int .i64 s.els,.int .i64 s.fall,.bool s.fin,.bool s.bad,.string s.give] 83)).cell? ((⟨wc.heap.size,0,none⟩:Addr).add Y)=some u:=fun Y u hu=>by rw[KZ];exact Xz wc #[.slice p s.asks.length q,.int .i64 s.on,.slice r s.cases.length t,.int .i64 s.els,.int .i64 s.fall,.bool s.fin,.bool s.bad,.string s.give] 83 Y u hu
     have L:=Kz b5;obtain⟨is,e5,e6,e7,e8⟩:=aN Tryz.jJ;have a9:(l.take k).length=k:=by rw[Kt];omega
     rw[a9] at o1 b4 b;have g2:k<=1000:=by omega
     have e9:=Kz a9;have f1:=Kz (a8.o.trans P);clear P b5 O A B a9;go_wp2_with (at_builtin;refine wpList_append_own _ rfl (.tmp 32) (.tmp 34) 75 rfl w.heap.size 83 is _ 8 96 underlying75 e5 e6 e7 e8 rfl (by decide) (.slice e1 k e2) k E rfl b4.o ⟨wc.heap.size,0,none⟩ 1 1 (s.cells p q r t) rfl rfl L.o (iL s p q r t) (by unfold maxLen;omega) (by omega) e4.o ?_;intro v' w2 b0 b1 _;have f:=b.o.fe f1.o b1;have z2:=f.2.lt;obtain⟨⟨_,M⟩,X⟩:=f.2.row.at (i:=1) (by omega);have f2:=Kz b0;obtain⟨Q,R,rfl⟩:=ax b0;have f3:=Kz b1;clear b0 b1 f)
     go_roundg (gk-1)
     case measure=>omega
     case rel=>
      have et:l.take (k+1)=l.take k++ [s]:=by
       rw[JX T,b7.o];simp[List.getD,T]
      refine⟨k+1,.slice Q (k+1) R,E++s.cells p q r t,by omega,by go_num, ?_⟩;rw[et];exact b.o.push a8.o e3.o e0.o (by rw[e9.o];exact f2.o) f3.o
  ·have f4:k=l.length:=by omega
   subst f4;rw[KI] at b;have o0:=b.o.o0;obtain⟨Q,R,rfl⟩:=ax b.o.own;have o1:=b.o.o1;have oz:=b.o.out.lt;obtain⟨⟨_,x0⟩,g3⟩:=b.o.res.row.at (i:=0) (by omega);obtain⟨⟨_,x1⟩,g4⟩:=b.o.res.row.at (i:=1) (by omega);have rz:=b.o.res.lt;go_wp2
   have hR:=JU wr (w.heap.size+1) 0 [.int .i64 cost,.slice Q l.length R] (b.o.res.row.there (o:=0) (m:=2) (JP _));have f5:=b.o.res.same (o:=0) (.int .i64 cost);have f6:=(b.o.res.set (o:=0) (.int .i64 cost)).same (o:=1) (.slice Q l.length R);have hk:=f5.trans f6;exact X_ [.int .i64 cost,.slice Q l.length R] _ results124 rfl hR underlying77 rfl Tryz.g_ rfl ⟨_,E,rfl,aJ b.o.own hk (by decide),b.o.pack.same hk (by decide) (by decide),(b.o.kept.setCell (by simp) _).setCell (by simp) _⟩
theorem Tryz.ym :(prog.info? 83).map (·.size)=some 8:=by kernel_rfl
def StW(w:LP)(v:LQ)(L:List Xj):Prop:=
 ∃a cap,v= .slice a L.length cap/\L.length<=cap/\∀i,i<L.length->∃b o cur fr cs,a=some ⟨b,o,none⟩/\w.heap[b]? =some (Obj.cells cur 83 fr)/\w.rangeAt b (o+i*8) cs/\kN w 9 177 cs (L.getD i Xj.zero)/\jU cs
theorem StW.same(h:StW w v L)(k:ay u w w')(i:83≠u)(l:9≠u)(h2:177≠u):StW w' v L:=by
 obtain⟨a,m,n,p,g⟩:=h;refine⟨a,m,n,p,fun q r=>?_⟩;obtain⟨b,o,c,d,s,t,e,x,y,A⟩:=g q r;have f:=k b c _ d i e;exact⟨b,o,c,d,s,t,f,fun j B C=>by rw[Ke (w:=w) (f.trans e.symm)];exact x j B C,y.same k l h2,A⟩
theorem oO{base g:Nat}(h:w.ownsRow base 83 8 (.slice (some ⟨g,0,none⟩) n cap) n xs)(i:Nat):w.rangeAt g (0+i*8) (kJ xs i):=by
 intro j u a;unfold kJ at a;have d:j<8:=by have:=(JW.1 a).1;rw[Kt] at this;omega
 rw[List.getElem?_take,Lt d,List.getElem?_drop] at a;have:=h.cells (g:=g) rfl _ _ a;rw[KZ] at this;rw[Nat.add_assoc];exact this
theorem He{i:Nat}{u:LQ}(h:u∈kJ xs i):u∈xs:=List.mem_of_mem_drop (List.mem_of_mem_take h)
theorem StW.fM{base:Nat}(h:w.ownsRow base 83 8 v L.length xs)(b:eH w 9 177 xs L)(c:jU xs):StW w v L:=by
 rcases h.2 with⟨rfl,d⟩|⟨g,e,f,rfl,p,j,k,_,_,_⟩
 ·exact⟨none,0,by rw[d],by omega,fun i a=>by omega⟩
 ·exact⟨_,e,rfl,k,fun i a=>⟨g,0,f,_,_,rfl,j,oO h i,b.2 i a,fun n l m=>c n l (He m)⟩⟩
theorem dU.ng{base:Nat}(h:dU w base xs l):jU xs:=by
 intro n c a;obtain⟨j,b,d⟩:=Kb a;have f:=h.len;have e:j / 8<l.length:=by omega
 refine (h.each (j / 8) e).ng n c ?_;rw[<-d];unfold kJ;refine Kg (i:=j % 8) ?_;rw[List.getElem?_take,Lt (by omega),List.getElem?_drop,show j / 8*8+j % 8=j by omega,JV b]
def IA(M:Nat)(w w':LP)(rb:Nat)(a:LM)(cap:Nat)(bs:List UInt8)(p t:Nat)(e:Ending):Prop:=
 ∃(cost:Int) (v:LQ) (L:List Xj) (p':Nat),e= .returned (.agg #[.int .i64 cost,v])/\p<=p'/\p'<=p+t/\L.length<=21/\(-1000<=cost/\cost<=1000)/\(∀s∈L,s.TinyN M)/\StW w' v L/\Rd w' rb a cap bs p'/\Xk rb (rb+1) w w'
theorem kG{base size:Nat}{e:TypeId}(h:w.ownsRow base e size v n xs)(a:∀b,v.ownBlock=some b->w'.heap[b]? =w.heap[b]?):w'.ownsRow base e size v n xs:=by
 refine⟨h.1, ?_⟩;rcases h.2 with c|⟨g,d,f,rfl,i,j,rest⟩
 ·exact .inl c
 ·exact .inr ⟨g,d,f,rfl,i,(a g rfl).trans j,rest⟩
def Oth(w:LP)(base:Nat)(va vc:LQ)(cs:List LQ)(t:Xj):Prop:=iC w base cs t/\(∀b,vD cs=some b->va.ownBlock≠some b)/\∀b,qy cs=some b->vc.ownBlock≠some b
variable {va vc : LQ}
theorem Oth.same{base:Nat}{t:Xj}(h:Oth w base va vc cs t)(k:ay u w w')(b:9≠u)(h2:177≠u):Oth w' base va vc cs t:=⟨h.1.same k b h2,h.2⟩
theorem Oth.GM{base:Nat}{t:Xj}(h:Oth w1 base va vc cs t)(i:w1.ownsRow base 9 1 va n xs)(c:w1.grownBy w2 va.ownBlock)(j:v'.ownBlock=va.ownBlock\/v'.ownBlock=some w1.heap.size):Oth w2 base v' vc cs t:=by
 have d:=h.1.Bz;obtain⟨⟨k,l,m,p,rfl,q,r⟩,f,s⟩:=h;refine⟨⟨k,l,m,p,rfl,kG q (fun b a=>c.block b (d.1 b a).2 (fun e=>f b a e.symm)),aJ r (ay.aI i c) (by decide)⟩,fun b a=>?_,s⟩;rcases j with e | e
 ·rw[e];exact f b a
 ·rw[e];intro v;have:=(d.1 b a).2;simp only[KT] at v;omega
theorem Oth.EY{base:Nat}{t:Xj}(h:Oth w1 base va vc cs t)(i:w1.ownsRow base 177 2 vc n xs)(c:w1.grownBy w2 vc.ownBlock)(j:v'.ownBlock=vc.ownBlock\/v'.ownBlock=some w1.heap.size):Oth w2 base va v' cs t:=by
 have d:=h.1.Bz;obtain⟨⟨k,l,m,p,rfl,q,r⟩,s,f⟩:=h;refine⟨⟨k,l,m,p,rfl,aJ q (ay.aI i c) (by decide),kG r (fun b a=>c.block b (d.2 b a).2 (fun e=>f b a e.symm))⟩,s,fun b a=>?_⟩;rcases j with e | e
 ·rw[e];exact f b a
 ·rw[e];intro v;have:=(d.2 b a).2;simp only[KT] at v;omega
structure dS (M:Nat) (w wr:LP) (rb ob sb:Nat) (a:LM) (cap:Nat) (bs:List UInt8) (p:Nat) (cost:Int) (v:LQ) (L:List Xj) (xs:List LQ) (k:Nat) (va vc:LQ) (s:Xj):Prop where
 st:fJ M w wr rb sb a cap bs p va vc s
 obl:w.heap.size<=ob
 row:aC wr ob 77 2
 c0:wr.cell? ⟨ob,0,none⟩=some (.int .i64 cost)
 c1:wr.cell? ⟨ob,1,none⟩=some v
 own:wr.ownsRow w.heap.size 83 8 v L.length xs
 sbn:v.ownBlock≠some sb
 len:xs.length=L.length*8
 kl:k<L.length
 oth:∀i,i<L.length->i≠k->Oth wr w.heap.size va vc (kJ xs i) (L.getD i Xj.zero)
 tiny:∀s∈L,s.TinyN M
variable {t : TypeId}
theorem aC.eQ{b:Nat}(h:aC w b t n)(k:ay u w w')(e:t≠u):aC w' b t n/\∀o,w'.cell? ⟨b,o,none⟩=w.cell? ⟨b,o,none⟩:=by
 obtain⟨a,c,f⟩:=h;have d:=k _ a _ _ e c;exact⟨⟨a,d,f⟩,fun o=>Ke (w:=w) (d.trans c.symm)⟩
variable {M k ob sb : Nat}
theorem dS.drawn{d:Nat}{cost:Int}(h:dS M w wr rb ob sb a cap bs p cost v L xs k va vc s)(f:Rd w' rb a cap bs d)(e:Xk rb (rb+1) wr w'):dS M w w' rb ob sb a cap bs d cost v L xs k va vc s:=by
 have b:=e.sameKind h.st.rd;have c:=h.row.eQ b (by decide);exact⟨h.st.drawn f e,h.obl,c.1,(c.2 0).trans h.c0,(c.2 1).trans h.c1,aJ h.own b (by decide),h.sbn,h.len,h.kl,fun i j l=>(h.oth i j l).same b (by decide) (by decide),h.tiny⟩
theorem dS.kept{cost:Int}(h:dS M w wr rb ob sb a cap bs p cost v L xs k va vc s)(c:K_ wr w'):dS M w w' rb ob sb a cap bs p cost v L xs k va vc s:=h.drawn (h.st.rd.kept c) (.aF c)
theorem dS.field{cost:Int}{c:Xj}(h:dS M w wr rb ob sb a cap bs p cost v L xs k va vc s){o:Nat}{x:LQ}(f:cZ (wr.setCell ⟨sb,o,none⟩ x) sb va vc c)(i:c.asks=s.asks)(j:c.cases=s.cases)(l:c.TinyN M):dS M w (wr.setCell ⟨sb,o,none⟩ x) rb ob sb a cap bs p cost v L xs k va vc c:=by
 have e:=h.st.box.row.same (o:=o) x;have d:=h.row.eQ e (by decide);exact⟨h.st.field f i j l,h.obl,d.1,(d.2 0).trans h.c0,(d.2 1).trans h.c1,kG h.own (fun b m=>Below.heap_setCell _ _ _ _ (fun n=>h.sbn (by rw[m,n]))),h.sbn,h.len,h.kl,fun q r t=>(h.oth q r t).same e (by decide) (by decide),h.tiny⟩
theorem dS.oD{cost:Int}{x:LK}(h:dS M w wr rb ob sb a cap bs p cost v L xs k va vc s)(j:K_ wr w1)
 (m:w2.ownsRow w.heap.size 9 1 v' (s.asks.length+1) (s.asks.map Value.string++ [.string x])) (d:w1.grownBy w2 va.ownBlock) (n:v'.ownBlock=va.ownBlock\/v'.ownBlock=some w1.heap.size) (q:s.asks.length+1<=M) (r:x.size<=300):dS M w (w2.setCell ⟨sb,0,none⟩ v') rb ob sb a cap bs p cost v L xs k v' vc {s with asks:=s.asks++ [x]}:=by
 have c:=h.kept j;have e:ay 9 w1 w2:=ay.aI c.st.asks d;have t:=c.st.box.same e (by decide);have l:=t.row.same (o:=0) v';have f:=c.row.eQ e (by decide);have i:=f.1.eQ l (by decide);exact⟨h.st.oD j m d q r,h.obl,i.1,(i.2 0).trans ((f.2 0).trans c.c0),(i.2 1).trans ((f.2 1).trans c.c1),kG (aJ c.own e (by decide)) (fun b y=>Below.heap_setCell _ _ _ _ (fun A=>h.sbn (by rw[y,A]))),h.sbn,h.len,h.kl,
  fun B C D=>((c.oth B C D).GM c.st.asks d n).same l (by decide) (by decide),h.tiny⟩
theorem dS.qU{cost:Int}{x:bK}(h:dS M w wr rb ob sb a cap bs p cost v L xs k va vc s)(j:K_ wr w1)
 (m:w2.ownsRow w.heap.size 177 2 v' (s.cases.length+1) (aY s.cases++x.cells)) (d:w1.grownBy w2 vc.ownBlock) (n:v'.ownBlock=vc.ownBlock\/v'.ownBlock=some w1.heap.size) (q:s.cases.length+1<=M) (r:x.Tiny):dS M w (w2.setCell ⟨sb,2,none⟩ v') rb ob sb a cap bs p cost v L xs k va v' {s with cases:=s.cases++ [x]}:=by
 have c:=h.kept j;have e:ay 177 w1 w2:=ay.aI c.st.cases d;have t:=c.st.box.same e (by decide);have l:=t.row.same (o:=2) v';have f:=c.row.eQ e (by decide);have i:=f.1.eQ l (by decide);exact⟨h.st.qU j m d q r,h.obl,i.1,(i.2 0).trans ((f.2 0).trans c.c0),(i.2 1).trans ((f.2 1).trans c.c1),kG (aJ c.own e (by decide)) (fun b y=>Below.heap_setCell _ _ _ _ (fun A=>h.sbn (by rw[y,A]))),h.sbn,h.len,h.kl,
  fun B C D=>((c.oth B C D).EY c.st.cases d n).same l (by decide) (by decide),h.tiny⟩
theorem dS.cost{cost x:Int}(h:dS M w wr rb ob sb a cap bs p cost v L xs k va vc s):dS M w (wr.setCell ⟨ob,0,none⟩ (.int .i64 x)) rb ob sb a cap bs p x v L xs k va vc s:=by
 have b:=h.row.same (o:=0) (.int .i64 x);have c:Below w.heap.size wr (wr.setCell ⟨ob,0,none⟩ (.int .i64 x)):=(Below.refl _ _).setCell h.obl _;obtain⟨j,d⟩:=h.st.rd0;have st:fJ M w (wr.setCell ⟨ob,0,none⟩ (.int .i64 x)) rb sb a cap bs p va vc s:=⟨h.st.rd.below d c h.st.kb.size,h.st.rd0,h.st.sbl,h.st.kb.below c,h.st.box.same b (by decide),aJ h.st.asks b (by decide),aJ h.st.cases b (by decide),h.st.tiny⟩;exact⟨st,h.obl,h.row.set _,bG h.row.row (by omega) _,(Xx (by omega) _).trans h.c1,aJ h.own b (by decide),h.sbn,h.len,h.kl,fun i e f=>(h.oth i e f).same b (by decide) (by decide),h.tiny⟩
theorem aC.setCells{g:Nat}:∀(vs:List LQ) (o:Nat) {w:LP},aC w g t n->aC (w.setCells g o vs) g t n/\ay t w (w.setCells g o vs)
 | [],_,_,h=>⟨h,ay.refl _ _⟩
 | v :: r,o,_,h=>by
  rw[World.setCells];have:=aC.setCells r (o+1) (h.set (o:=o) v);exact⟨this.1,(h.same (o:=o) v).trans this.2⟩
theorem Below.setCells'{B g:Nat}(c:B<=g):∀(vs:List LQ) (o:Nat) {a w:LP},Below B a w->Below B a (w.setCells g o vs)
 | [],_,_,_,h=>h
 | v :: r,o,_,_,h=>by
  rw[World.setCells];exact Below.setCells' c r (o+1) (h.setCell (p:=⟨g,o,none⟩) c v)
structure sJ (M:Nat) (w wr:LP) (rb ob:Nat) (a:LM) (cap:Nat) (bs:List UInt8) (p:Nat) (cost:Int) (v:LQ) (L:List Xj):Prop where
 rd:Rd wr rb a cap bs p
 kb:Xk rb (rb+1) w wr
 row:aC wr ob 77 2
 c0:wr.cell? ⟨ob,0,none⟩=some (.int .i64 cost)
 c1:wr.cell? ⟨ob,1,none⟩=some v
 stw:StW wr v L
 tiny:∀s∈L,s.TinyN M
theorem dS.store{cost:Int}{g j:Nat}{b c:LM}{d e:Nat}(h:dS M w wr rb ob sb a cap bs p cost (.slice (some ⟨g,0,none⟩) L.length j) L xs k (.slice b s.asks.length d) (.slice c s.cases.length e) s):
  sJ M w (wr.setCells g (k*8) (s.cells b d c e)) rb ob a cap bs p cost (.slice (some ⟨g,0,none⟩) L.length j) (L.set k s):=by
 have N:=h.kl;have O:=h.len;rcases h.own.2 with⟨f,_⟩|⟨P,Q,A,f,B,C,D,_,E,_⟩
 ·simp at f
 simp only[KX,KT,LG,and_true,true_and] at f;obtain⟨rfl,rfl⟩:=f;have t:aC wr g 83 (j*8):=⟨A,C,E⟩;have l:=aC.setCells (s.cells b d c e) (k*8) t;have m:=h.row.eQ l.2 (by decide);have v:Below w.heap.size wr (wr.setCells g (k*8) (s.cells b d c e)):=Below.setCells' B _ _ (Below.refl _ _);obtain⟨R,F⟩:=h.st.rd0;obtain⟨x,y,_⟩:=l.1;refine⟨h.st.rd.below F v h.st.kb.size,h.st.kb.below v,m.1,(m.2 0).trans h.c0,(m.2 1).trans h.c1,⟨some ⟨g,0,none⟩,j,by rw[Lp],by rw[Lp];exact D,fun i n=>?_⟩,fun G H=>?_⟩
 ·rw[Lp] at n;by_cases f:i=k
  ·subst f;refine⟨g,0,x,_,s.cells b d c e,rfl,y, ?_, ?_, ?_⟩
   ·rw[KH];exact JU wr g (i*8) (s.cells b d c e) (t.row.there (by show i*8+8<=j*8;omega))
   ·have q:(L.set i s).getD i Xj.zero=s:=by simp[List.getD,n]
    rw[q];exact (iC.step ⟨b,d,c,e,rfl,h.st.asks,h.st.cases⟩).same l.2 (by decide) (by decide)
   ·exact iC.ng ⟨b,d,c,e,rfl,h.st.asks,h.st.cases⟩
  ·have r:=(h.oth i n f).1;have I:(kJ xs i).length=8:=by obtain⟨_,_,_,_,J,_⟩:=r;rw[J];rfl
   refine⟨g,0,x,_,kJ xs i,rfl,y, ?_, ?_,r.ng⟩
   ·refine Ki (oO h.own i) g (k*8) _ (.inr ?_);show 0+i*8+ (kJ xs i).length<=k*8\/k*8+8<=0+i*8;rw[I];omega
   ·have q:(L.set k s).getD i Xj.zero=L.getD i Xj.zero:=by simp[List.getD,Ne.symm f]
    rw[q];exact r.step.same l.2 (by decide) (by decide)
 ·rcases List.mem_or_eq_of_mem_set H with K|rfl
  ·exact h.tiny G K
  ·exact h.st.tiny
theorem sJ.ends{b:Nat}{d t:Nat}{cost:Int}{e:Ending}(h:sJ M A0 wr rb ob a cap bs d cost v L)(f:aC wr b 77 2)(i:w.heap.size<=b)(c:K_ w A0){n:Nat}(q:Rd w rb a cap bs n)
 (r:e= .returned (.agg #[.int .i64 cost,v])) (s:p<=d) (h2:d<=p+t) (x:L.length<=21) (y: -1000<=cost/\cost<=1000):IA M w ((wr.setCell ⟨b,0,none⟩ (.int .i64 cost)).setCell ⟨b,1,none⟩ v) rb a cap bs p t e:=by
 have A:=f.same (o:=0) (.int .i64 cost);have B:=(f.set (o:=0) (.int .i64 cost)).same (o:=1) v;have C:=A.trans B;have j:Below w.heap.size wr ((wr.setCell ⟨b,0,none⟩ (.int .i64 cost)).setCell ⟨b,1,none⟩ v):=((Below.refl _ _).setCell (p:=⟨b,0,none⟩) i _).setCell (p:=⟨b,1,none⟩) i _;have k:Xk rb (rb+1) w wr:=⟨h.kb.os.trans c.os,h.kb.tape.trans c.tape,h.kb.output.trans c.output,JS c.size h.kb.size,fun l m D=>(h.kb.block l (JQ m c.size) D).trans (c.block l m)⟩;exact⟨cost,v,L,d,r,s,h2,x,y,h.tiny,h.stw.same C (by decide) (by decide) (by decide),h.rd.below q j k.size,k.below j⟩
theorem dS.made{b:LP}{p0:Nat}{cost:Int}{d e:LM}{f h:Nat}(D:Rd b rb a cap bs p)(E:Rd A0 rb a cap bs p0)(x:Xk rb (rb+1) A0 b)(F:A0.heap.size<=ob)(m:aC b ob 77 2)
 (G:b.cell? ⟨ob,0,none⟩=some (.int .i64 cost)) (c1:b.cell? ⟨ob,1,none⟩=some v) (own:b.ownsRow A0.heap.size 83 8 v L.length xs) (i:dU b A0.heap.size xs L) (j:k<L.length) (y:∀s∈L,s.TinyN M) (A:s=L.getD k Xj.zero) (n:kJ xs k=s.cells d f e h):
  dS M A0 (b.alloc (.cells #[.slice d s.asks.length f,.int .i64 s.on,.slice e s.cases.length h,.int .i64 s.els,.int .i64 s.fall,.bool s.fin,.bool s.bad,.string s.give] 83)) rb ob b.heap.size a cap bs p cost v L xs k (.slice d s.asks.length f) (.slice e s.cases.length h) s:=by
 have c:K_ b (b.alloc (.cells #[.slice d s.asks.length f,.int .i64 s.on,.slice e s.cases.length h,.int .i64 s.els,.int .i64 s.fall,.bool s.fin,.bool s.bad,.string s.give] 83)):=ag _ _;have H:s.TinyN M:=y s (by rw[A];simp[List.getD,j]);have B:=i.each k j;rw[n,<-A] at B;obtain⟨K,N,O,P,l,I,J⟩:=B;simp only[Xj.cells,List.cons.injEq,KX,true_and,and_true] at l;obtain⟨⟨rfl,rfl⟩,rfl,rfl⟩:=l;refine⟨⟨D.kept c,⟨p0,E⟩,x.size,x.eP c,cZ.copied b s d f e h,ai I c,ai J c,H⟩,F,m.kept c,(c.cell m.lt).trans G,(c.cell m.lt).trans c1,ai own c,fun l=>?_,i.len,j,fun q r C=>⟨(i.each q r).same (u:=90) (ay.aF c) (by decide) (by decide),fun t w=>?_,fun t w=>?_⟩,y⟩
 ·have:=(own.lt _ l).2;omega
 ·have:=(i.apart q k r j C).1 t w;rw[n] at this;exact this
 ·have:=(i.apart q k r j C).2 t w;rw[n] at this;exact this
theorem sJ.made{cost:Int}(c:Rd wr rb a cap bs p)(d:Xk rb (rb+1) A0 wr)(e:aC wr ob 77 2)
 (f:wr.cell? ⟨ob,0,none⟩=some (.int .i64 cost)) (c1:wr.cell? ⟨ob,1,none⟩=some v) (own:wr.ownsRow A0.heap.size 83 8 v L.length xs) (b:dU wr A0.heap.size xs L) (h:∀s∈L,s.TinyN M):sJ M A0 wr rb ob a cap bs p cost v L:=
 ⟨c,d,e,f,c1,StW.fM own b.packed b.ng,h⟩
theorem tZ{a:LP}(cs:List Int)(k:Xk rb (rb+1) (w.alloc (.cells (cs.map (Value.int .i64)).toArray t)) a)(e:rb<w.heap.size)(q:Nat)(b:q<cs.length)(d:∀c∈cs, -1000<=c/\c<=1000):∃c,a.cell? ⟨w.heap.size,q,none⟩=some (.int .i64 c)/\ -1000<=c/\c<=1000:=by
 refine⟨cs[q], ?_,d _ (J_ b)⟩;rw[k.cell (by simp) (by omega),World.cell?_alloc_mark];simp[b]
theorem in64_wrap64(x:Int):In64 (wrap64 x):=by
 unfold In64 wrap64;omega
theorem tX(w:LP)(s:LK)(m:Int)(n:Nat)(a:m= (n:Int))(b:n<=1000)(c:s.size<=100):
  Calls prog 96 #[.string s,.int .i64 m] w fun e w'=>(∃t:LK,e= .returned (.string t)/\t.size<=n*s.size)/\w'=w:=by
 rw[a];exact AL w s n b c
theorem vC(w:LP)(t:TypeId)(cs:List Int)(q:Nat)(a:q<cs.length)(b:∀c∈cs, -1000<=c/\c<=1000):∃c,(w.alloc (.cells (cs.map (Value.int .i64)).toArray t)).cell? ⟨w.heap.size,q,none⟩=some (.int .i64 c)/\ -1000<=c/\c<=1000:=by
 refine⟨cs[q], ?_,b _ (J_ a)⟩;rw[World.cell?_alloc_mark];simp[a]
theorem uK{g H:Nat}(h:v.ownBlock=some g\/g=H):(Value.slice (some ⟨g,0,none⟩) n cap).ownBlock=v.ownBlock\/(Value.slice (some ⟨g,0,none⟩) n cap).ownBlock=some H:=by
 rcases h with h|rfl
 ·exact .inl h.symm
 ·exact .inr rfl
theorem qp{a:LP}(cs:List LK)(k:Xk rb (rb+1) (w.alloc (.cells (cs.map Value.string).toArray t)) a)(e:rb<w.heap.size)(q:Nat)(b:q<cs.length)(d:∀c∈cs,c.size<=300):∃c,a.cell? ⟨w.heap.size,q,none⟩=some (.string c)/\c.size<=300:=by
 refine⟨cs[q], ?_,d _ (J_ b)⟩;rw[k.cell (by simp) (by omega),World.cell?_alloc_mark];simp[b]
theorem uO(w:LP)(t:TypeId)(cs:List LK)(q:Nat)(a:q<cs.length)(b:∀c∈cs,c.size<=300):∃c,(w.alloc (.cells (cs.map Value.string).toArray t)).cell? ⟨w.heap.size,q,none⟩=some (.string c)/\c.size<=300:=by
 refine⟨cs[q], ?_,b _ (J_ a)⟩;rw[World.cell?_alloc_mark];simp[a]
structure OSt (W wr:LP) (rb:Nat) (a:LM) (cap:Nat) (bs:List UInt8) (p:Nat) (v:LQ) (l:List LK):Prop where
 rd:Rd wr rb a cap bs p
 rd0:∃p0,Rd W rb a cap bs p0
 kb:Xk rb (rb+1) W wr
 own:wr.ownsRow W.heap.size 9 1 v l.length (l.map Value.string)
 sz:∀x∈l,x.size<=300
section
variable {W wr w' : LP} {rb : Nat} {a : LM} {cap : Nat} {bs : List UInt8} {p p' : Nat} {v : LQ} {l : List LK}
theorem OSt.drawn(h:OSt W wr rb a cap bs p v l)(c:Rd w' rb a cap bs p')(k:Xk rb (rb+1) wr w'):OSt W w' rb a cap bs p' v l:=
 ⟨c,h.rd0,h.kb.trans k,aJ h.own (k.sameKind h.rd) (by decide),h.sz⟩
theorem OSt.kept(h:OSt W wr rb a cap bs p v l)(k:K_ wr w'):OSt W w' rb a cap bs p v l:=h.drawn (h.rd.kept k) (.aF k)
theorem OSt.push{x:LK}(h:OSt W wr rb a cap bs p v l)(e:K_ wr w1)(f:w2.ownsRow W.heap.size 9 1 v' (l.length+1) (l.map Value.string++ [.string x]))(i:w1.grownBy w2 v.ownBlock)(j:x.size<=300):OSt W w2 rb a cap bs p v' (l++ [x]):=by
 have b:=h.kept e;have d:Below W.heap.size w1 w2:=(Below.refl _ _).grown i b.kb.size (fun k m=>(b.own.lt k m).1);obtain⟨q,n⟩:=h.rd0;refine⟨b.rd.below n d b.kb.size,h.rd0,b.kb.below d,by simpa using f,fun y c=>?_⟩;simp only[JZ,JY] at c;rcases c with c | rfl
 ·exact h.sz y c
 ·exact j
theorem OSt.made{p0:Nat}(c:Rd W rb a cap bs p0)(h:Rd wr rb a cap bs p)(k:Xk rb (rb+1) W wr):OSt W (wr.alloc (.cells #[] 9)) rb a cap bs p (.slice (some ⟨wr.heap.size,0,none⟩) 0 0) []:=by
 have b:K_ wr (wr.alloc (.cells #[] 9)):=ag _ _;exact⟨h.kept b,⟨p0,c⟩,k.eP b,bC (KG wr #[] 0 (JP _) (JR _) rfl) k.size,fun x e=>by simp at e⟩
end
section
variable {W wr w' : LP} {rb : Nat} {a : LM} {cap : Nat} {bs : List UInt8} {p p' : Nat} {v : LQ} {l : List LK}
theorem fA.take{a:LM}{l:List LK}(h:fA w t a l)(n:Nat):fA w t a (l.take n):=by
 rcases h with rfl|⟨b,c,d,e,f,j⟩
 ·exact .inl (by simp)
 ·refine .inr ⟨b,c,d,e,f,fun i k=>?_⟩;rw[Kt] at k;rw[j i (by omega)];simp[List.getD,(by omega:i<n)]
end
theorem Dw{a b:LK}(h:(a.toList == b.toList)=true):a=b:=by
 have c:a.toList=b.toList:=by simpa using h
 rw[ByteArray.toList_eq,ByteArray.toList_eq] at c;cases a;cases b;simp at c;rw[c]
theorem oP(w:LP)(a:LM)(p:Nat)(l:List LK)(x:LK)(v:l.length<=1048576)(q:Strs w a l):
  Calls prog 38 #[.slice a l.length p,.string x] w fun e w'=>Says e (x∈l)/\w'=w:=by
 go_enter func38,ntmps38
 go_wp2
 go_loopw [5] (fun i wr=>∃k:Nat,k<=l.length/\i= .int .i64 (k:Int)/\Hid (x∉l.take k)/\wr=w) (fun i _=>l.length-(intOf i).toNat)
 case atStart=>exact⟨0,JR _,rfl,Kz (by simp),rfl⟩
 case round=>
  obtain⟨k,A,rfl,j,rfl⟩:=hrel;by_cases c:k<l.length
  ·obtain⟨b,o,r,B,s⟩:=q k c;subst r;obtain⟨y,d⟩:=aj (l.getD k ByteArray.empty);rw[<-d] at s;have m:l[k]=y:=by rw[d];simp[List.getD,c]
   have n:=Kz m;have C:(k:Int)<(l.length:Int):=by omega
   clear d m;cases f:(y.toList == x.toList)
   ·go_wp2
    go_roundw
    case rel=>
     refine⟨k+1,by omega,by go_num,Kz (fun h=>?_),trivial⟩;rw[JX c,n.o] at h;rcases JZ.1 h with h | h
     ·exact j.o h
     ·rw[JY] at h;rw[h] at f;simp at f
    case measure=>simp[intOf];omega
   ·go_wp2
    go_ret
    exact⟨Says.yes (by rw[<-Dw f,<-n.o];exact J_ c),rfl⟩
  ·have D:¬((k:Int)<(l.length:Int)):=by omega
   have t:Hid (x∉l):=by have h:=j.o;rw[KJ (by omega)] at h;exact h
   clear c;go_wp2
   go_ret
   exact⟨Says.no t.o,rfl⟩
def mQ(w:LP)(a:LM)(l:List LK):Prop:=
 l=[]\/∃b o cur fr,a=some ⟨b,o,none⟩/\w.heap[b]? =some (Obj.cells cur 9 fr)/\∀i,i<l.length->w.cell? ⟨b,o+i,none⟩=some (.string (l.getD i ByteArray.empty))
variable {a : LM} {u : TypeId} {w w' : LP}
theorem mQ.same{l:List LK}(h:mQ w a l)(k:ay u w w')(i:9≠u):mQ w' a l:=by
 rcases h with h|⟨b,o,c,d,j,e,m⟩
 ·exact .inl h
 ·have f:=k b c _ d i e;exact .inr ⟨b,o,c,d,j,f,fun n p=>by rw[Ke (w:=w) (f.trans e.symm)];exact m n p⟩
theorem mQ.strs{l:List LK}(h:mQ w a l):Strs w a l:=by
 rcases h with rfl|⟨c,o,j,k,d,e,f⟩
 ·intro i b;simp at b
 ·exact fun i b=>⟨c,o,d,aO e,f i b⟩
theorem fA.g{l:List LK}(h:fA w 9 a l):mQ w a l:=by
 rcases h with h|⟨b,c,d,e,f,i⟩
 ·exact .inl h
 ·exact .inr ⟨b,0,c,d,e,f,fun j k=>by rw[KH];exact i j k⟩
variable {n : Nat}
theorem mQ.tail{b o:Nat}{l:List LK}{c:Array LQ}{d:Nat×Nat}(e:w.heap[b]? =some (Obj.cells c 9 d))(f:∀i,i<l.length->w.cell? ⟨b,o+i,none⟩=some (.string (l.getD i ByteArray.empty)))(j:l.drop n≠[]->a=some ⟨b,o+n,none⟩):mQ w a (l.drop n):=by
 by_cases h:l.drop n=[]
 ·exact .inl h
 ·refine .inr ⟨b,o+n,c,d,j h,e,fun i k=>?_⟩;rw[List.length_drop] at k;have:=f (n+i) (by omega);rw[Nat.add_assoc,this];simp[List.getD,List.getElem?_drop]
def GStep(w:LP)(cs:List LQ)(s:Xj):Prop:=∃aa ca ac cc,cs=s.cells aa ca ac cc/\mQ w aa s.asks/\nZ w 177 ac s.cases/\s.asks.length<=ca
variable {s : Xj}
theorem GStep.same{cs:List LQ}(h:GStep w cs s)(k:ay u w w')(a:9≠u)(h2:177≠u):GStep w' cs s:=by
 obtain⟨b,c,d,e,f,i,j,l⟩:=h;exact⟨b,c,d,e,f,i.same k a,j.same k h2,l⟩
theorem kN.g{cs:List LQ}(h:kN w 9 177 cs s):GStep w cs s:=by
 obtain⟨a,b,c,d,e,f,i,j⟩:=h;exact⟨a,b,c,d,e,f.g,i,j⟩
def b_(w:LP)(v:LQ)(L:List Xj):Prop:=
 ∃a cap,v= .slice a L.length cap/\L.length<=cap/\∀i,i<L.length->∃b o cur fr cs,a=some ⟨b,o,none⟩/\w.heap[b]? =some (Obj.cells cur 83 fr)/\w.rangeAt b (o+i*8) cs/\GStep w cs (L.getD i Xj.zero)/\jU cs
variable {L : List Xj} {v : LQ}
theorem b_.same(h:b_ w v L)(k:ay u w w')(i:83≠u)(l:9≠u)(h2:177≠u):b_ w' v L:=by
 obtain⟨a,m,n,p,g⟩:=h;refine⟨a,m,n,p,fun q r=>?_⟩;obtain⟨b,o,c,d,s,t,e,x,y,A⟩:=g q r;have f:=k b c _ d i e;exact⟨b,o,c,d,s,t,f,fun j B C=>by rw[Ke (w:=w) (f.trans e.symm)];exact x j B C,y.same k l h2,A⟩
theorem StW.g(h:StW w v L):b_ w v L:=by
 obtain⟨a,c,e,d,g⟩:=h;refine⟨a,c,e,d,fun i f=>?_⟩;obtain⟨b,o,j,k,l,m,n,p,q,r⟩:=g i f;exact⟨b,o,j,k,l,m,n,p,q.g,r⟩
theorem b_.Da(h:b_ w v L):∃a b,v= .slice a L.length b/\L.length<=b/\jN w a L:=by
 obtain⟨a,b,e,f,g⟩:=h;refine⟨a,b,e,f,fun i j=>?_⟩;obtain⟨k,o,y,A,B,l,m,n,⟨p,q,r,s,rfl,t,x,C⟩,d⟩:=g i j;refine⟨k,o,p,q,r,s,l,aO m,n,t.strs,x.cases,fun c=>?_,fun c=>?_⟩
 ·subst c;exact d _ _ (by simp[Xj.cells])
 ·subst c;exact d _ _ (by simp[Xj.cells])
variable {cap : Nat}
theorem b_.steps(h:b_ w (.slice a n cap) L):Steps w a L:=by
 obtain⟨t,v,e,x,g⟩:=h;simp only[KX] at e;obtain⟨rfl,rfl,rfl⟩:=e;intro i c;obtain⟨b,o,y,A,B,d,f,j,⟨k,l,m,p,rfl,q,r,s⟩,C⟩:=g i c;exact⟨b,o,_,d,aO f,j,k,l,m,p,rfl,q.strs,r.cases,s⟩
theorem b_.slice(h:b_ w v L):∃a cap,v= .slice a L.length cap:=let ⟨a,cap,e,_⟩:=h;⟨a,cap,e⟩
def cB(w:LP)(xs:List LQ)(l:List Qq):Prop:=
 xs.length=l.length*3/\∀i,i<l.length->∃v,(xs.drop (i*3)).take 3=[.string (l.getD i Qq.zero).name,.int .i64 (l.getD i Qq.zero).cost,v]/\b_ w v (l.getD i Qq.zero).steps
theorem cB.nil(w:LP):cB w [] []:=⟨rfl,fun i a=>by simp at a⟩
variable {xs : List LQ}
theorem cB.same{l:List Qq}(h:cB w xs l)(k:ay u w w')(a:83≠u)(b:9≠u)(h2:177≠u):cB w' xs l:=
 ⟨h.1,fun i c=>by obtain⟨v,d,g⟩:=h.2 i c;exact⟨v,d,g.same k a b h2⟩⟩
theorem cB.snoc{l:List Qq}{d:Qq}(h:cB w xs l)(f:b_ w v d.steps):cB w (xs++ [.string d.name,.int .i64 d.cost,v]) (l++ [d]):=by
 refine⟨by simp[h.1];omega,fun i c=>?_⟩;rw[KS] at c;simp only[KY,List.length_nil] at c;by_cases e:i<l.length
 ·have a:(l++ [d]).getD i Qq.zero=l.getD i Qq.zero:=by simp[List.getD,Lh e]
  have b:((xs++ [.string d.name,.int .i64 d.cost,v]).drop (i*3)).take 3= (xs.drop (i*3)).take 3:=by
   rw[List.drop_append_of_le_length (by rw[h.1];omega),List.take_append_of_le_length (by rw[List.length_drop,h.1];omega)]
  rw[a,b];exact h.2 i e
 ·obtain rfl:i=l.length:=by omega
  have a:(l++ [d]).getD l.length Qq.zero=d:=by simp[List.getD]
  have b:((xs++ [.string d.name,.int .i64 d.cost,v]).drop (l.length*3)).take 3=[.string d.name,.int .i64 d.cost,v]:=by
   rw[<-h.1,List.drop_left]
   rfl
  rw[a,b];exact⟨v,rfl,f⟩
def rG(w:LP)(a:LM)(l:List Qq):Prop:=
 ∀i,i<l.length->∃b o sa sc,a=some ⟨b,o,none⟩/\b<w.heap.size/\w.rangeAt b (o+i*3) ((l.getD i Qq.zero).cells sa sc)/\jN w sa (l.getD i Qq.zero).steps
theorem rG.kept{l:List Qq}(h:rG w a l)(k:K_ w w'):rG w' a l:=by
 intro i c;obtain⟨d,o,e,f,j,b,m,n⟩:=h i c;exact⟨d,o,e,f,j,JQ b k.size,k.range b m,n.kept k⟩
def bB(w:LP)(v:LQ)(l:List Qq):Prop:=
 ∃a cap,v= .slice a l.length cap/\l.length<=cap/\((a=none->cap=0)/\∀ad,a=some ad->ad.spot=none)/\∀i,i<l.length->∃b o cur fr u,a=some ⟨b,o,none⟩/\w.heap[b]? =some (Obj.cells cur 79 fr)/\
  w.rangeAt b (o+i*3) [.string (l.getD i Qq.zero).name,.int .i64 (l.getD i Qq.zero).cost,u]/\b_ w u (l.getD i Qq.zero).steps
theorem bB.same{l:List Qq}(h:bB w v l)(k:ay u w w')(i:79≠u)(j:83≠u)(m:9≠u)(h2:177≠u):bB w' v l:=by
 obtain⟨a,n,p,q,r,g⟩:=h;refine⟨a,n,p,q,r,fun s t=>?_⟩;obtain⟨b,o,c,d,x,y,e,A,B⟩:=g s t;have f:=k b c _ d i e;exact⟨b,o,c,d,x,y,f,fun C D E=>by rw[Ke (w:=w) (f.trans e.symm)];exact A C D E,B.same k j m h2⟩
theorem bB.kept{l:List Qq}(h:bB w v l)(k:K_ w w'):bB w' v l:=h.same (u:=25) (.aF k) (by decide) (by decide) (by decide) (by decide)
theorem bB.slice{l:List Qq}(h:bB w v l):∃a cap,v= .slice a l.length cap/\l.length<=cap/\((a=none->cap=0)/\∀ad,a=some ad->ad.spot=none):=let ⟨a,cap,e,h1,h2,_⟩:=h;⟨a,cap,e,h1,h2⟩
theorem bB.GR{l:List Qq}(h:bB w (.slice a n cap) l):rG w a l:=by
 obtain⟨r,s,e,t,v,g⟩:=h;simp only[KX] at e;obtain⟨rfl,rfl,rfl⟩:=e;intro i c;obtain⟨b,o,x,y,u,d,f,j,k⟩:=g i c;obtain⟨m,p,rfl,_,q⟩:=k.Da;exact⟨b,o,m,p,d,aO f,j,q⟩
theorem bB.nodes{l:List Qq}(h:bB w (.slice a n cap) l):bN w a l:=by
 obtain⟨q,r,e,s,t,g⟩:=h;simp only[KX] at e;obtain⟨rfl,rfl,rfl⟩:=e;intro i d;obtain⟨b,o,v,x,u,f,j,k,c⟩:=g i d;obtain⟨m,p,rfl⟩:=c.slice;exact⟨b,o,_,f,aO j,k,m,p,rfl,c.steps⟩
theorem bB.fM{base:Nat}{l:List Qq}(a:w.ownsRow base 79 3 v l.length xs)(f:cB w xs l):bB w v l:=by
 rcases a.2 with⟨rfl,h⟩|⟨g,k,m,rfl,s,n,p,_,_,_⟩
 ·exact⟨none,0,by rw[h],by omega,⟨fun _=>rfl,fun _ e=>by cases e⟩,fun i b=>by omega⟩
 ·refine⟨_,k,rfl,p,⟨fun e=>by simp at e,fun _ e=>by cases e;rfl⟩,fun i b=>?_⟩;obtain⟨u,e,q⟩:=f.2 i b;refine⟨g,0,m,_,u,rfl,n,fun j x c=>?_,q⟩;have r:j<3:=by have:=(JW.1 c).1;simpa using this
  have d:((xs.drop (i*3)).take 3)[j]? =some x:=by rw[e];exact c
  rw[List.getElem?_take,Lt r,List.getElem?_drop] at d;have:=a.cells (g:=g) rfl _ _ d;rw[KZ] at this;rw[KH] at this⊢;exact this
theorem bB.nil(w:LP):bB w (.slice none 0 0) []:=⟨none,0,rfl,JP _,⟨fun _=>rfl,fun _ e=>by cases e⟩,fun i b=>by simp at b⟩
structure Qq.TinyN (m:Nat) (d:Qq):Prop where
 name:d.name.size<=300
 cost: -1000<=d.cost/\d.cost<=1000
 steps:d.steps.length<=21
 each:∀s∈d.steps,s.TinyN m
theorem Qq.TinyN.fits{m:Nat}{d:Qq}(h:d.TinyN m)(a:m<=1000):d.Fits:=by
 have c:=h.name;have e:=h.steps;exact⟨by unfold maxLen;omega,mH h.cost,by unfold maxLen;omega,fun s b=>(h.each s b).fits a⟩
theorem Qq.TinyN.mono{m:Nat}{d:Qq}(h:d.TinyN m)(b:m<=n):d.TinyN n:=⟨h.name,h.cost,h.steps,fun s e=>(h.each s e).mono b⟩
def lN(lo:Nat)(v:LQ)(L:List Qq):Prop:=0<L.length->∀g n c,v= .slice (some g) n c->lo<=g.block
theorem lN.mono{a b:Nat}{L:List Qq}(h:lN a v L)(d:b<=a):lN b v L:=fun e g n c i=>JS d (h e g n c i)
theorem lN.fM{base:Nat}{L:List Qq}(h:w.ownsRow base 79 3 v n xs):lN base v L:=fun _ g n c e=>(h.lt g.block (by rw[e];rfl)).1
def kY(M N:Nat)(w w':LP)(rb:Nat)(a:LM)(cap:Nat)(bs:List UInt8)(p t:Nat)(e:Ending):Prop:=
 ∃(v:LQ) (L:List Qq) (p':Nat),e= .returned (.agg #[v])/\p<=p'/\p'<=p+t/\L.length<=N/\(∀d∈L,d.TinyN M)/\bB w' v L/\Rd w' rb a cap bs p'/\Xk rb (rb+1) w w'/\lN w.heap.size v L
theorem Tryz.lX :(prog.info? 79).map (fun i=>(i.zero,i.size,i.bytes))=some (some (.agg #[.string ⟨#[]⟩,.int .i64 0,.slice none 0 0]),3,48):=by kernel_rfl
theorem Tryz.fC :(prog.info? 25).map (·.size)=some 1:=by kernel_rfl
structure fD (m:Nat) (w wr:LP) (rb wb:Nat) (a:LM) (cap:Nat) (bs:List UInt8) (p:Nat) (v:LQ) (L:List Qq) (xs:List LQ):Prop where
 rd:Rd wr rb a cap bs p
 rd0:∃p0,Rd w rb a cap bs p0
 wbl:w.heap.size<=wb
 kb:Xk rb (rb+1) w wr
 row:aC wr wb 25 1
 c0:wr.cell? ⟨wb,0,none⟩=some v
 own:wr.ownsRow w.heap.size 79 3 v L.length xs
 pack:cB wr xs L
 tiny:∀d∈L,d.TinyN m
variable {bs : List UInt8} {mN p rb wb : Nat} {wr : LP}
theorem fD.rbl{L:List Qq}(h:fD mN w wr rb wb a cap bs p v L xs):rb<w.heap.size:=let ⟨_,h0⟩:=h.rd0;h0.row.lt
theorem fD.drawn{c:Nat}{L:List Qq}(h:fD mN w wr rb wb a cap bs p v L xs)(e:Rd w' rb a cap bs c)(k:Xk rb (rb+1) wr w'):fD mN w w' rb wb a cap bs c v L xs:=by
 have d:=k.sameKind h.rd;have:=h.rbl;have:=h.wbl;exact⟨e,h.rd0,h.wbl,h.kb.trans k,h.row.but k (by omega),(k.cell h.row.lt (by omega)).trans h.c0,aJ h.own d (by decide),h.pack.same d (by decide) (by decide) (by decide),h.tiny⟩
theorem fD.kept{L:List Qq}(h:fD mN w wr rb wb a cap bs p v L xs)(k:K_ wr w'):fD mN w w' rb wb a cap bs p v L xs:=h.drawn (h.rd.kept k) (.aF k)
variable {w1 : LP}
theorem fD.made{p0:Nat}(c:Rd w rb a cap bs p0)(h:Rd w1 rb a cap bs p)(k:Xk rb (rb+1) w w1):
  fD mN w (w1.alloc (.cells #[.slice none 0 0] 25)) rb w1.heap.size a cap bs p (.slice none 0 0) [] []:=by
 have e:=Xz w1 #[.slice none 0 0] 25;have b:K_ w1 (w1.alloc (.cells #[.slice none 0 0] 25)):=ag _ _;exact⟨h.kept b,⟨p0,c⟩,k.size,k.eP b,aC.made w1 _ _,e 0 _ rfl,Ld _ _ _ _,cB.nil _,fun s f=>by simp at f⟩
variable {w2 : LP}
theorem fD.fe{L:List Qq}(h:fD mN w wr rb wb a cap bs p v L xs)(f:K_ wr w1)(i:w1.grownBy w2 v.ownBlock):w2.cell? ⟨wb,0,none⟩=some v/\aC w2 wb 25 1:=by
 have b:=h.kept f;have j:ay 79 w1 w2:=ay.aI b.own i;obtain⟨c,d,k⟩:=b.row;have e:=j wb c _ _ (by decide) d;exact⟨by rw[Ke (w:=w1) (e.trans d.symm)];exact b.c0,c,e,k⟩
theorem fD.push{c u:LQ}{L:List Qq}{d:Qq}(h:fD mN w wr rb wb a cap bs p v L xs)(k:K_ wr w1)(n:b_ w1 u d.steps)(q:d.TinyN mN)
 (r:w2.ownsRow w.heap.size 79 3 c (L.length+1) (xs++ [.string d.name,.int .i64 d.cost,u])) (f:w1.grownBy w2 v.ownBlock):fD mN w (w2.setCell ⟨wb,0,none⟩ c) rb wb a cap bs p c (L++ [d]) (xs++ [.string d.name,.int .i64 d.cost,u]):=by
 have b:=h.kept k;have i:ay 79 w1 w2:=ay.aI b.own f;have j:aC w2 wb 25 1:=(h.fe k f).2;have l:=j.same (o:=0) c;have m:Below w.heap.size w1 (w2.setCell ⟨wb,0,none⟩ c):=((Below.refl _ _).grown f b.kb.size (fun s i=>(b.own.lt s i).1)).setCell h.wbl c;obtain⟨x,t⟩:=h.rd0;refine⟨b.rd.below t m b.kb.size,h.rd0,h.wbl,b.kb.below m,j.set _,bG j.row (by omega) _, ?_, ?_,fun y e=>?_⟩
 ·have:=aJ r l (by decide);simpa using this
 ·exact ((b.pack.snoc n).same i (by decide) (by decide) (by decide)).same l (by decide) (by decide) (by decide)
 ·simp only[JZ,JY] at e;rcases e with e|rfl
  ·exact h.tiny y e
  ·exact q
theorem fD.web{L:List Qq}(h:fD mN w wr rb wb a cap bs p v L xs):bB wr v L:=bB.fM h.own h.pack
theorem mG(w:LP)(n:LK)(c:Int)(u:LQ):∀j x,([.string n,.int .i64 c,u]:List LQ)[j]? =some x->(w.alloc (.cells #[.string n,.int .i64 c,u] 79)).cell? ((⟨w.heap.size,0,none⟩:Addr).add j)=some x:=fun j x a=>by
 rw[KZ];exact Xz w #[.string n,.int .i64 c,u] 79 j x a
theorem mO(n:LK)(c:Int)(a:LM)(m k:Nat):∀u∈([.string n,.int .i64 c,.slice a m k]:List LQ),u.oneCell'=true:=fun u b=>by
 simp only[Lb,Lc,or_false] at b;rcases b with rfl | rfl | rfl <;> rfl
theorem yU.g(h:yU w v L):b_ w v L:=by
 obtain⟨base,e,b,c,d⟩:=h;exact (StW.fM b c d).g
variable {M : Nat}
theorem fD.ends{N:Nat}{c:LP}{f t:Nat}{L:List Qq}{i:LP}{e:Ending}(h:fD M i c rb wb a cap bs f v L xs){d:Nat}(n:aC c d 25 1)(q:w.heap.size<=d)(b:K_ w i){r:Nat}(s:Rd w rb a cap bs r)
 (x:e= .returned (.agg #[v])) (y:p<=f) (h2:f<=p+t) (A:L.length<=N):kY M N w (c.setCell ⟨d,0,none⟩ v) rb a cap bs p t e:=by
 have B:=n.same (o:=0) v;have j:Below w.heap.size c (c.setCell ⟨d,0,none⟩ v):=(Below.refl _ _).setCell (p:=⟨d,0,none⟩) q _;have k:Xk rb (rb+1) w c:=⟨h.kb.os.trans b.os,h.kb.tape.trans b.tape,h.kb.output.trans b.output,JS b.size h.kb.size,fun l m C=>(h.kb.block l (JQ m b.size) C).trans (b.block l m)⟩;exact⟨v,L,f,x,y,h2,A,h.tiny,h.web.same B (by decide) (by decide) (by decide) (by decide),h.rd.below s j k.size,k.below j,(lN.fM h.own).mono b.size⟩
theorem uF(w:LP)(j:Nat)(a:LM)(r:Nat)(q:List UInt8)(p i n:Nat)(hR:Rd w j a r q p)(hp:p<=800000)(hi:i<=100000)(hn:n<=100000)(E:q.length<=2000):
  Calls prog 126 #[.pointer (some ⟨j,0,none⟩),.int .i64 (i:Int),.int .i64 (n:Int)] w fun e w'=>p_ w w' j a r q p 100 e:=by
 have k0:K_ w (w.alloc (.cells #[.int .i64 0,.slice none 0 0] 77)):=ag _ _;have g7:Hid (Rd (w.alloc (.cells #[.int .i64 0,.slice none 0 0] 77)) j a r q p):=hR.kept k0;have g8:Hid (aC (w.alloc (.cells #[.int .i64 0,.slice none 0 0] 77)) w.heap.size 77 2):=aC.made w _ _;have o7:=hR.row.lt;have l1:=Kz hR;go_enter func126,ntmps126
 go_wp2_with fail
 refine (aK _ j a r q p _ 6 rfl g7.o (by omega) (by omega) E).mono ?_;rintro e w1 ⟨v1,rfl,l2,g9,h0⟩;have⟨h1,M⟩:=aH g9 h0;clear g9 h0 hR;have N:=Kz (ASt.made g7.o h1.o M.o (1+ (v1:Int)));go_wp2_with fail
 refine (aK _ j a r q (p+1) _ 10 rfl N.o.rd (by omega) (by omega) E).mono ?_;rintro e w2 ⟨v2,rfl,l3,h2,h3⟩;have c:=Kz (N.o.drawn h2 h3);have r2:=c.o.row.row.at (i:=0) (by omega);obtain⟨⟨_,q0⟩,f0⟩:=r2;have l4:=c.o.row.lt;clear h2 h3;go_upto_if 20 with fail
 go_cut [7] from 21 to 21 (fun s7 F=>IZ (w.alloc (.cells #[.int .i64 0,.slice none 0 0] 77)) w1.heap.size j a r q p s7 F)
 case first=>
  by_cases T:v2=0
  ·have e0:((v2:Int) == 0)=true:=by simp[T]
   go_wp2
   go_meet
   exact⟨20,rfl,by omega,c.o.cost⟩
  ·have e0:((v2:Int) == 0)=false:=by simpa using T
   go_wp2
   go_meet
   exact⟨_,rfl,by omega,c.o⟩
 case rest=>
  obtain⟨cost,rfl,d4,t⟩:=hcut;have k:=Kz t;clear t N c h1 M l2 l3 q0 f0 l4;go_wp2_with fail
  refine (aK _ j a r q (p+2) _ 4 rfl k.o.rd (by omega) (by omega) E).mono ?_;rintro e w4 ⟨v4,rfl,l5,b0,b1⟩;have C:=Kz (k.o.drawn b0 b1);clear b0 b1 k;go_upto_region 5 with fail
  go_cut [31] from 25 to 30 (fun l6 F=>∃(G:Bool) (p':Nat),l6= .bool G/\p+3<=p'/\p'<=p+4/\ASt (w.alloc (.cells #[.int .i64 0,.slice none 0 0] 77)) F j w1.heap.size a r q p' cost (.slice none 0 0) [] [])
  case first=>
   by_cases T:i=0
   ·have e0:((i:Int) == 0)=true:=by simp[T]
    clear T;go_wp2_with fail
    refine (aK _ j a r q (p+3) _ 3 rfl C.o.rd (by omega) (by omega) E).mono ?_;rintro e w5 ⟨v5,rfl,o8,h4,h5⟩;have h:=Kz (C.o.drawn h4 h5);clear h4 h5;go_wp2
    go_meet
    exact⟨_,p+4,rfl,by omega,by omega,h.o⟩
   ·have e0:((i:Int) == 0)=false:=by simpa using T
    go_wp2
    go_meet
    exact⟨_,p+3,rfl,by omega,by omega,C.o⟩
  case rest=>
   obtain⟨G,p5,rfl,l7,l8,t⟩:=hcut;have h:=Kz t;clear t C;go_upto_if 31 with fail
   go_cut [8] from 25 to 30 (fun s8 F=>JE (w.alloc (.cells #[.int .i64 0,.slice none 0 0] 77)) w1.heap.size j a r q p s8 F)
   case first=>
    cases G
    ·go_wp2
     go_meet
     exact⟨v4,cost,p5,rfl,by omega,d4,by omega,by omega,h.o⟩
    ·go_wp2
     go_meet
     exact⟨0,cost,p5,rfl,by omega,d4,by omega,by omega,h.o⟩
   case rest=>
    clear l7 l8 h d4 l5;obtain⟨U,cost,l9,rfl,o9,d4,m0,p0,t⟩:=hcut;have P:=Kz t;clear t;go_wp2
    go_loopg [9] U (fun g x wr=>∃(l:Nat) (p':Nat) (h6:LQ) (L:List Xj) (xs:List LQ),x= .int .i64 (l:Int)/\l+g=U/\L.length=l/\p<=p'/\p'<=p+4+20*l/\ASt (w.alloc (.cells #[.int .i64 0,.slice none 0 0] 77)) wr j w1.heap.size a r q p' cost h6 L xs)
    case atStart=>exact⟨0,l9,_,[],[],rfl,by omega,rfl,m0,by omega,P.o⟩
    case round=>
     clear P;obtain⟨l,p7,h6,L,xs,rfl,hk,hL,p1,p2,t⟩:=hrel;obtain⟨A,rfl⟩:=aj wr;obtain⟨gO,rfl⟩:=aj gk;have⟨HO,e8⟩:=aH t hL;clear t hL;by_cases m1:(l:Int)<1+ (U:Int)-1
     ·have e9:=Kz (SSt.made HO.o.rd (els:=(l:Int)+1) (fall:= -1) (by omega) (by omega));have zO:j<A.heap.size:=HO.o.rd.row.lt;go_wp2_with fail
      refine (aK _ j a r q p7 _ 4 rfl e9.o.rd (by omega) (by omega) E).mono ?_;rintro e w8 ⟨a6,rfl,hq,h7,h8⟩;have b2:=Kz (e9.o.drawn h7 h8);clear h7 h8;go_wp2
      go_loopg [11] a6 (fun g x wr=>∃(Q:LQ) (s:Xj) (p':Nat),x= .int .i64 (g:Int)/\g<=a6/\p<=p'/\p'+2*g<=p7+1+2*a6/\s.asks.length+g<=a6/\s.cases=[]/\SSt A wr j A.heap.size a r q p' Q (.slice none 0 0) s)
      case atStart=>exact⟨_,_,p7+1,rfl,JP _,by omega,by omega,by simp,rfl,b2.o⟩
      case round=>
       clear e9 b2;obtain⟨Q,s,p8,rfl,h9,i0,i1,d5,b3,t⟩:=hrel;have⟨v,a0⟩:=aH t b3;clear t b3;by_cases T:gk=0
       ·have d6:¬(0:Int)<(gk:Int):=by omega
        obtain⟨R,S,rfl⟩:=ax v.o.asks;obtain⟨wI,rfl⟩:=aj wr;have y0:=v.o.box.c0;have yz:=v.o.box.row.lt;have f1:s.asks.length<=20:=v.o.tiny.asks;obtain⟨J,hm⟩:=aj s.asks.length;rw[<-hm] at y0 d5 f1;have HM:=Kz hm;clear hm;go_upto_if 68 with fail
        go_cut [10,11] from 32 to 116 (fun b4 _ F=>∃(B:Xj) (Q:LQ) (p':Nat),b4= .pointer (some ⟨A.heap.size,0,none⟩)/\p<=p'/\p'<=p7+8/\B.cases=[]/\SSt A F j A.heap.size a r q p' Q (.slice none 0 0) B)
        case first=>
         by_cases p3:(0:Int)<(J:Int)
         ·go_wp2_with fail
          refine (jO _ j a r q p8 J v.o.rd (by omega) (by omega) E).mono ?_;rintro e f ⟨v9,rfl,p4,b5,b6⟩;have c:=Kz (v.o.drawn b5 b6);have z2:=c.o.box.row.lt;obtain⟨⟨_,p6⟩,q1⟩:=c.o.box.cell (o:=1) (by omega);clear b5 b6;go_wp2
          go_meet
          exact⟨{s with on:=(v9:Int)},_,p8+1,rfl,by omega,by omega,a0.o,c.o.on (x:=(v9:Int)) (by omega)⟩
         ·go_wp2
          go_meet
          exact⟨s,_,p8,rfl,by omega,by omega,a0.o,v.o⟩
        case rest=>
         clear v a0 y0 yz d5 f1 HM i0 i1 T d6 h9;obtain⟨s,Q,p9,rfl,m2,m3,b3,t⟩:=hcut;have⟨v,a0⟩:=aH t b3;clear t b3;go_wp2_with fail
         refine (aK _ j a r q p9 _ 3 rfl v.o.rd (by omega) (by omega) E).mono ?_;rintro e q3 ⟨q2,rfl,q5,i2,i3⟩;have b2:=Kz (v.o.drawn i2 i3);clear i2 i3 v;go_wp2
         go_loopg [13] q2 (fun g x wr=>∃(vc:LQ) (B:Xj) (p':Nat),x= .int .i64 (g:Int)/\g<=q2/\p<=p'/\p'+2*g<=p9+1+2*q2/\B.cases.length+g<=q2/\SSt A wr j A.heap.size a r q p' Q vc B)
         case atStart=>exact⟨_,s,p9+1,rfl,JP _,by omega,by omega,by rw[a0.o];simp,b2.o⟩
         case round=>
          clear b2 a0;obtain⟨vc,B,a2,rfl,h9,q6,q7,d5,t⟩:=hrel;have v:=Kz t;clear t;by_cases T:gk=0
          ·have d6:¬(0:Int)<(gk:Int):=by omega
           obtain⟨ac,cc,rfl⟩:=ax v.o.cases;obtain⟨wJ,rfl⟩:=aj wr;have q8:B.cases.length<=20:=v.o.tiny.cases;go_wp2_with fail
           refine (aK _ j a r q a2 _ 3 rfl v.o.rd (by omega) (by omega) E).mono ?_;rintro e m4 ⟨b7,rfl,i4,b8,b9⟩;have c:=Kz (v.o.drawn b8 b9);have z2:=c.o.box.row.lt;obtain⟨⟨_,q4⟩,f3⟩:=c.o.box.cell (o:=4) (by omega);clear b8 b9 v;go_upto_if 103 with fail
           go_cut [10,13] from 32 to 116 (fun b4 _ F=>∃(s'':Xj),b4= .pointer (some ⟨A.heap.size,0,none⟩)/\SSt A F j A.heap.size a r q (a2+1) Q (.slice ac B.cases.length cc) s'')
           case first=>
            by_cases d7:b7=0
            ·have m5:((b7:Int) == 0)=true:=by simp[d7]
             clear d7;go_wp2
             go_meet
             exact⟨_,rfl,c.o.fall (x:=(l:Int)+1) (by omega)⟩
            ·have m5:((b7:Int) == 0)=false:=by simpa using d7
             clear d7;go_wp2
             go_meet
             exact⟨B,rfl,c.o⟩
           case rest=>
            clear c q4 f3 z2 i4;obtain⟨s3,rfl,t⟩:=hcut;have k:=Kz t;clear t;go_wp2_with fail
            refine (aK _ j a r q (a2+1) _ 16 rfl k.o.rd (by omega) (by omega) E).mono ?_;rintro e m6 ⟨f4,rfl,m7,i5,i6⟩;have C:=Kz (k.o.drawn i5 i6);have z2:=C.o.box.row.lt;obtain⟨⟨_,q4⟩,f3⟩:=C.o.box.cell (o:=3) (by omega);clear i5 i6 k;go_upto_if 109 with fail
            go_cut [10] from 32 to 116 (fun b4 F=>∃(s'':Xj),b4= .pointer (some ⟨A.heap.size,0,none⟩)/\SSt A F j A.heap.size a r q (a2+2) Q (.slice ac B.cases.length cc) s'')
            case first=>
             by_cases d8:f4=0
             ·have i7:((f4:Int) == 0)=true:=by simp[d8]
              clear d8;go_wp2
              go_meet
              exact⟨_,rfl,C.o.els (x:=0) (by omega)⟩
             ·have i7:((f4:Int) == 0)=false:=by simpa using d8
              clear d8;go_wp2
              go_meet
              exact⟨s3,rfl,C.o⟩
            case rest=>
             clear C q4 f3 z2 m7;obtain⟨m,rfl,t⟩:=hcut;have h:=Kz t;clear t;obtain⟨d9,e1,rfl⟩:=ax HO.o.own;have HA:=Kz (HO.o.drawn h.o.rd h.o.kb);obtain⟨aa,ca,a7,a8,rfl,i8,hT⟩:=h.o.cells;rw[i8] at h;have HT:=Kz hT;clear hT i8;have q9:=h.o.box.c0;have r0:=h.o.box.c1;have c2:=h.o.box.c2;have r1:=h.o.box.c3;have r3:=h.o.box.c4;have r4:=h.o.box.c5;have r5:=h.o.box.c6;have c7:=h.o.box.c7;have cz:=h.o.box.row.lt;have a1:=HA.o.c1;have az:=HA.o.row.lt;have m8:L.length<=3:=by have:=e8.o;omega
             have V:K_ wc (wc.alloc (.cells #[.slice aa m.asks.length ca,.int .i64 m.on,.slice a7 m.cases.length a8,.int .i64 m.els,.int .i64 m.fall,.bool m.fin,.bool m.bad,.string m.give] 83)):=ag _ _;have M:=Kz V;have f5:=Kz (HA.o.kept V).own;have e2:=(HA.o.kept V).kb.size;have c0:∀D u,(m.cells aa ca a7 a8)[D]? =some u->(wc.alloc (.cells #[.slice aa m.asks.length ca,.int .i64 m.on,.slice a7 m.cases.length a8,.int .i64 m.els,.int .i64 m.fall,.bool m.fin,.bool m.bad,.string m.give] 83)).cell? ((⟨wc.heap.size,0,none⟩:Addr).add D)=some u:=fun D u y=>by rw[KZ];exact Xz wc #[.slice aa m.asks.length ca,.int .i64 m.on,.slice a7 m.cases.length a8,.int .i64 m.els,.int .i64 m.fall,.bool m.fin,.bool m.bad,.string m.give] 83 D u y
             have⟨m9,n0⟩:=aH c0 e2;obtain⟨ic,c1,c3,c4,c5⟩:=aN Tryz.jJ;clear V c0 e2;go_wp2_with (at_builtin;refine wpList_append_own _ rfl (.tmp 112) (.tmp 114) 75 rfl (w.alloc (.cells #[.int .i64 0,.slice none 0 0] 77)).heap.size 83 ic _ 8 96 underlying75 c1 c3 c4 c5 rfl (by decide) (.slice d9 L.length e1) L.length xs rfl f5.o ⟨wc.heap.size,0,none⟩ 1 1 (m.cells aa ca a7 a8) rfl rfl m9.o (iL m aa ca a7 a8) (by unfold maxLen;omega) (by omega) n0.o ?_;intro W w2 H I _;have a3:=HA.o.fe M.o I;have z2:=a3.2.lt;obtain⟨⟨_,y2⟩,f2⟩:=a3.2.row.at (i:=1) (by omega);have f7:=Kz H;obtain⟨R,S,rfl⟩:=ax H;have f8:=Kz I;clear H I a3)
             go_roundg (gO-1)
             case measure=>omega
             case rel=>exact⟨l+1,a2+2,_,L++ [m],_,by go_num,by omega,by rw[KS,e8.o];rfl,by omega,by omega,HA.o.push M.o HT.o h.o.tiny (h.o.ng rfl rfl) f7.o f8.o⟩
          ·have d6:(0:Int)<(gk:Int):=by omega
           obtain⟨ac,cc,rfl⟩:=ax v.o.cases;have r6:B.cases.length<=20:=v.o.tiny.cases;have N:=Kz (v.o.kept (aL wr));have y2:=N.o.box.c2;have r7:=Kz v.o;clear v;obtain⟨J,hm⟩:∃J:Nat,J=U-l:=⟨_,rfl⟩;have r8:J<=3:=by omega
           have r9:IntKind.i64.wrap ((l:Int)+1)= (l:Int)+1:=by simp[IntKind.wrap,IntKind.bits,IntKind.signed];omega
           have i7:IntKind.i64.wrap (1+ (U:Int)-(l:Int))= (J:Int)+1:=by simp[IntKind.wrap,IntKind.bits,IntKind.signed];omega
           have s0:IntKind.i64.wrap (J:Int)= (J:Int):=by simp[IntKind.wrap,IntKind.bits,IntKind.signed];omega
           clear hm;go_upto_region 22 with fail
           refine Qx.region (by kernel_rfl) (fun w'=>w'.cell? ⟨A.heap.size,2,none⟩=some (.slice ac B.cases.length cc)) 20 y2 (fun b=>?_);refine af 0 b ?_;refine af 1 b ?_;refine af 2 b ?_;refine af 7 b ?_;refine bJ 8 (.int .i64 ((l:Int)+1)) b ?_ ?_
           ·intro u y;try dsimp only at y
            go_simp
            try with_reducible rfl
           try simp only[upP]
           refine af 9 b ?_;refine af 10 b ?_;refine af 11 b ?_;refine bJ 12 (.int .i64 ((J:Int)+1)) b ?_ ?_
           ·intro u y;try dsimp only at y
            go_simp
            try with_reducible rfl
           try simp only[upP]
           refine bJ 13 (.int .i64 (J:Int)) b ?_ ?_
           ·intro u y;try dsimp only at y
            go_simp
            try with_reducible rfl
           try simp only[upP]
           refine ak 3 (fun K d=>?_);go_simp
           go_at_call 21
           refine (aK _ j a r q a2 _ 3 rfl N.o.rd (by omega) (by omega) E).mono ?_;rintro e m4 ⟨b7,rfl,i4,b8,b9⟩;have c:=Kz (N.o.drawn b8 b9);clear b8 b9;dsimp only;refine ae d (fun _=>c.o.box.c2) ?_;clear d K b;have b:=c.o.box.c2;refine ak 4 (fun K d=>?_);go_simp
           go_at_call 127
           refine (rQ _ b7 (by omega)).mono ?_;rintro e m6 ⟨f9,rfl,ht,i9⟩;have k:=Kz (c.o.kept i9);clear i9;dsimp only;refine ae d (fun _=>k.o.box.c2) ?_;clear d K b;have b:=k.o.box.c2;obtain⟨t1,j0⟩:∃t1:LK,(⟨#[118]⟩:LK)++f9=t1:=⟨_,rfl⟩;have n1:t1.size<=2:=by rw[<-j0,ByteArray.size_append];show 1+f9.size<=2;omega
           have n2:¬9223372036854775807<1+f9.size:=by omega
           refine bJ 5 (.string t1) b ?_ ?_
           ·intro u y;try dsimp only at y
            go_simp
            try with_reducible rfl
           try simp only[upP]
           obtain⟨tx,j1⟩:∃tx:LK,t1++ (⟨#[40,41]⟩:LK)=tx:=⟨_,rfl⟩;have n3:tx.size<=300:=by rw[<-j1,ByteArray.size_append];show t1.size+2<=300;omega
           have f6:¬9223372036854775807<t1.size+2:=by omega
           refine bJ 6 (.string tx) b ?_ ?_
           ·intro u y;try dsimp only at y
            go_simp
            try with_reducible rfl
           try simp only[upP]
           clear j0 j1 n2 f6 n1 ht;refine ak 14 (fun K d=>?_);go_simp
           go_at_call 21
           refine (aK _ j a r q (a2+1) _ J rfl k.o.rd (by omega) (by omega) E).mono ?_;rintro e e3 ⟨X,rfl,s1,j2,j3⟩;have C:=Kz (k.o.drawn j2 j3);clear j2 j3;dsimp only;refine ae d (fun _=>C.o.box.c2) ?_;clear d K b;have b:=C.o.box.c2;have s2:IntKind.i64.wrap ((l:Int)+1+ (X:Int))= (l:Int)+1+ (X:Int):=by simp[IntKind.wrap,IntKind.bits,IntKind.signed];omega
           refine bJ 15 (.int .i64 ((l:Int)+1+ (X:Int))) b ?_ ?_
           ·intro u y;try dsimp only at y
            go_simp
            try with_reducible rfl
           try simp only[upP]
           refine af 16 b ?_;refine ah 17 (fun K d=>?_);go_simp
           have a4:K_ e3 (e3.alloc (.cells #[.string tx,.int .i64 ((l:Int)+1+ (X:Int))] 177)):=ag _ _;have h:=Kz (C.o.kept a4);have c6:=Kz a4;refine ae d (fun _=>h.o.box.c2) ?_;clear d K b a4;obtain⟨ic,c1,c3,c4,c5⟩:=aN Tryz.oQ;refine ah 18 (fun K d=>?_);refine step_append_lies _ rfl (.tmp 82) (.tmp 98) 81 rfl A.heap.size 177 ic _ 2 24 underlying81 c1 c3 c4 c5 rfl (by decide) (.slice ac B.cases.length cc) B.cases.length (aY B.cases) (by simp[Act.eval]) h.o.cases ⟨e3.heap.size,0,none⟩ 1 1 [.string tx,.int .i64 ((l:Int)+1+ (X:Int))] (by simp[Act.eval]) rfl (fun D u y=>by rw[KZ];exact Xz e3 #[.string tx,.int .i64 ((l:Int)+1+ (X:Int))] 177 D u (by simpa using y)) (fun u y=>by simp at y;rcases y with rfl | rfl <;> rfl) (by omega) (by unfold maxLen;omega) (by omega) h.o.kb.size _ rfl ?_;intro g e4 s4 c8 a5 g1 g2;have Y:=Kz (C.o.zJ c6.o a5);have P:=Kz (C.o.qU (x:=⟨tx,(l:Int)+1+ (X:Int)⟩) c6.o c8 a5 (by omega) ⟨n3,by show -1000<=(l:Int)+1+ (X:Int);omega,by show (l:Int)+1+ (X:Int)<=1000;omega⟩);have z6:=Y.o.row.lt;have y6:=Y.o.c2;obtain⟨_,f6⟩:=Y.o.cell (o:=2) (by omega);clear c8 a5 g1 g2;refine ae d (fun _=>Y.o.c2) ?_;clear d K;have b:=Y.o.c2;refine af 19 b ?_;refine ah 20 (fun K d=>?_);go_simp
           refine ae d (fun g3=>Lv rfl g3) ?_;clear d K;refine aB ?_;go_wp2
           go_roundg (gk-1)
           case measure=>omega
           case rel=>exact⟨_,_,a2+2,by go_num,by omega,by omega,by omega,by show (B.cases++ [_]).length+ (gk-1)<=q2;rw[KS];show B.cases.length+1+ (gk-1)<=q2;omega,P.o⟩
       ·have d6:(0:Int)<(gk:Int):=by omega
        go_wp2_with fail
        refine (Hq _ j a r q p8 i n v.o.rd (by omega) hi hn E).mono ?_;rintro e f ⟨x,p9,rfl,hx,m2,m3,b5,b6⟩;have c:=Kz (v.o.drawn b5 b6);have y0:=c.o.box.c0;have yz:=c.o.box.row.lt;clear b5 b6 v;go_upto_region 15 with fail
        go_cut [58] from 43 to 57 (fun n4 F=>∃G:Bool,n4= .bool G/\K_ f F)
        case first=>
         obtain⟨ia,a9,c9,d0,d1⟩:=aN Tryz.d_;have e5:(f.alloc (.cells #[] 9)).ownsRow f.heap.size 9 1 (.slice (some ⟨f.heap.size,0,none⟩) 0 0) 0 []:=KG f #[] 0 (JP _) (JR _) rfl;have e6:=Kz e5;have kA:K_ f (f.alloc (.cells #[] 9)):=ag _ _;have d2:=Kz kA;have n5:s.asks.length<=20:=c.o.tiny.asks;clear e5 kA;have fin:∀(Z w2:LP) (v1 W:LQ) (U:Nat) (j4:List LQ),K_ f Z->Z.ownsRow f.heap.size 9 1 v1 U j4->Z.grownBy w2 v1.ownBlock->w2.ownsRow f.heap.size 9 1 W (s.asks.length+1) ((s.asks++ [x]).map Value.string)->∃R S,W= .slice R (s.asks.length+1) S/\K_ f w2/\Calls prog 84 #[.slice R ((s.asks.length+1:Nat):Nat) S] w2 fun e w'=>(∃G:Bool,e= .returned (.bool G))/\K_ w2 w':=by
          intro Z w2 v1 W U j4 kA e5 hg hO;obtain⟨R,S,e,_,hT⟩:=bg hO;have g4:(s.asks++ [x]).length=s.asks.length+1:=by simp
          rw[g4] at e;refine⟨R,S,e, ?_,Bo w2 R S _ _ g4 (by rw[g4];omega) (fun n6 hy=>?_) hT.strs⟩
          ·exact Below.grown kA hg kA.size (fun l hk=>(e5.lt l hk).1)
          ·simp only[JZ,JY] at hy;rcases hy with hy|rfl
           ·have:=c.o.tiny.dM n6 hy;omega
           ·omega
         have j5:=Kz fin;clear fin;rcases c.o.asks.2 with⟨ev,j6⟩|⟨g,cp,s5,ev,n7,j7,s6,_,_,_⟩
         ·subst ev;have n8:Hid (s.asks=[]):=LB j6;have j8:=Kz (ai e6.o ((K_.refl _).alloc (.cells #[.string x] 9)));have j9:=Kz (d2.o.alloc (.cells #[.string x] 9));have k1:∀D u,([.string x]:List LQ)[D]? =some u->((f.alloc (.cells #[] 9)).alloc (.cells #[.string x] 9)).cell? ((⟨f.heap.size+1,0,none⟩:Addr).add D)=some u:=by
           have:=iH (f.alloc (.cells #[] 9)) x;rw[KR] at this;exact this
          have n9:=Kz k1;have g5:f.heap.size<=((f.alloc (.cells #[] 9)).alloc (.cells #[.string x] 9)).heap.size:=j9.o.size;clear j6 k1 d5 n5;go_wp2_with (first | (at_builtin;refine wpList_append_own_none _ rfl (.tmp 51) (.tmp 53) 26 rfl f.heap.size 9 ia 1 underlying26 a9 (.slice (some ⟨f.heap.size,0,none⟩) 0 0) 0 [] rfl e6.o rfl ?_) | (at_builtin;refine wpList_append_own _ rfl (.tmp 54) (.tmp 56) 26 rfl f.heap.size 9 ia _ 1 16 underlying26 a9 c9 d0 d1 rfl (by decide) (.slice (some ⟨f.heap.size,0,none⟩) 0 0) 0 [] rfl j8.o ⟨f.heap.size+1,0,none⟩ 1 1 [.string x] rfl rfl n9.o (iq x) (by unfold maxLen;omega) (by omega) g5 ?_;intro W w2 H I _;obtain⟨R,S,rfl,k2,hC⟩:=j5.o _ w2 _ W 0 [] j9.o j8.o I (by rw[n8.o];exact H);have HC:=Kz hC;have g6:=Kz k2;clear H I hC k2))
          refine HC.o.mono ?_;rintro e w3 ⟨⟨G,rfl⟩,k3⟩;go_wp2
          go_meet
          exact⟨G,rfl,g6.o.trans k3⟩
         ·subst ev;have c0:∀D u,(s.asks.map Value.string)[D]? =some u->(f.alloc (.cells #[] 9)).cell? ((⟨g,0,none⟩:Addr).add D)=some u:=fun D u y=>(ai c.o.asks d2.o).cells (g:=g) rfl D u y
          have o0:=Kz c0;have g5:f.heap.size<=(f.alloc (.cells #[] 9)).heap.size:=d2.o.size;have s9:=aO j7;clear c0 j7 n7;go_wp2_with (first | (at_builtin;refine wpList_append_own _ rfl (.tmp 51) (.tmp 53) 26 rfl f.heap.size 9 ia _ 1 16 underlying26 a9 c9 d0 d1 rfl (by decide) (.slice (some ⟨f.heap.size,0,none⟩) 0 0) 0 [] rfl e6.o ⟨g,0,none⟩ s.asks.length cp (s.asks.map Value.string) rfl (by simp) o0.o (uR _) (by unfold maxLen;omega) (by omega) g5 ?_;intro v1 Z e7 k4 _;rw[KH,List.nil_append] at e7;obtain⟨o2,o3,rfl⟩:=ax e7;have M:=Kz (Below.grown d2.o k4 d2.o.size (fun l hk=>(e6.o.lt l hk).1));have k5:=Kz (ai e7 ((K_.refl Z).alloc (.cells #[.string x] 9)));have o4:f.heap.size<=(Z.alloc (.cells #[.string x] 9)).heap.size:=(K_.alloc (a:=f) M.o (.cells #[.string x] 9)).size;clear e7 k4) | (at_builtin;refine wpList_append_own _ rfl (.tmp 54) (.tmp 56) 26 rfl f.heap.size 9 ia _ 1 16 underlying26 a9 c9 d0 d1 rfl (by decide) (.slice o2 s.asks.length o3) s.asks.length (s.asks.map Value.string) rfl k5.o ⟨Z.heap.size,0,none⟩ 1 1 [.string x] rfl rfl (iH Z x) (iq x) (by unfold maxLen;omega) (by omega) o4 ?_;intro W w2 H I _;obtain⟨R,S,rfl,k2,hC⟩:=j5.o _ w2 _ W _ _ (K_.alloc (a:=f) M.o (.cells #[.string x] 9)) k5.o I (by rw[LA];exact H);have HC:=Kz hC;have g6:=Kz k2;clear H I hC k2))
          refine HC.o.mono ?_;rintro e w3 ⟨⟨G,rfl⟩,k3⟩;go_wp2
          go_meet
          exact⟨G,rfl,g6.o.trans k3⟩
        case rest=>
         obtain⟨G,rfl,k6⟩:=hcut;have k:=Kz (c.o.kept k6);clear c y0 yz k6;have y0:=k.o.box.c0;have yz:=k.o.box.row.lt;obtain⟨_,f0⟩:=k.o.box.cell (o:=0) (by omega);cases G
         ·go_wp2
          go_roundg (gk-1)
          case measure=>omega
          case rel=>exact⟨Q,s,p9,by go_num,by omega,by omega,by omega,by omega,a0.o,k.o⟩
         ·obtain⟨ia,a9,c9,d0,d1⟩:=aN Tryz.d_;have V:K_ wc (wc.alloc (.cells #[.string x] 9)):=ag _ _;have M:=Kz V;have f5:=Kz (k.o.kept V).asks;have e2:A.heap.size<=(wc.alloc (.cells #[.string x] 9)).heap.size:=(k.o.kept V).kb.size;have f1:s.asks.length<=20:=k.o.tiny.asks;clear V;go_wp2_with (at_builtin;refine wpList_append_own _ rfl (.tmp 60) (.tmp 62) 26 rfl A.heap.size 9 ia _ 1 16 underlying26 a9 c9 d0 d1 rfl (by decide) Q s.asks.length (s.asks.map Value.string) rfl f5.o ⟨wc.heap.size,0,none⟩ 1 1 [.string x] rfl rfl (iH wc x) (iq x) (by unfold maxLen;omega) (by omega) e2 ?_;intro W w2 H I _;have a3:=k.o.sw M.o I;have y2:=a3.c0;have z2:=a3.row.lt;obtain⟨_,f2⟩:=a3.cell (o:=0) (by omega);have f7:=Kz H;obtain⟨R,S,rfl⟩:=ax H;have f8:=Kz I;clear H I a3)
          go_roundg (gk-1)
          case measure=>omega
          case rel=>exact⟨_,{s with asks:=s.asks++ [x]},p9,by go_num,by omega,by omega,by omega,by show (s.asks++ [x]).length+ (gk-1)<=a6;rw[KS];show s.asks.length+1+ (gk-1)<=a6;omega,a0.o,k.o.oD M.o f7.o f8.o (by omega) (by omega)⟩
     ·have t0:l=U:=by omega
      clear m1;obtain⟨d9,e1,rfl⟩:=ax HO.o.own;have N:=Kz (HO.o.kept (aL A));have t2:Hid (aC A w.heap.size 77 2):=g8.o.but HO.o.kb (by omega);have y1:=N.o.c1;have m8:L.length<=3:=by have:=e8.o;omega
      have t3:=Kz HO.o;go_upto_region 28 with fail
      refine Qx.region (by kernel_rfl) (fun w'=>w'.cell? ⟨w1.heap.size,1,none⟩=some (.slice d9 L.length e1)) 11 y1 (fun b=>?_);refine af 0 b ?_;refine af 1 b ?_;refine af 2 b ?_;refine af 5 b ?_;refine ak 3 (fun K d=>?_);go_simp
      go_at_call 21
      refine (aK _ j a r q p7 _ 8 rfl N.o.rd (by omega) (by omega) E).mono ?_;rintro e w3 ⟨v3,rfl,o5,k7,k8⟩;have c:=Kz (N.o.drawn k7 k8);clear k7 k8;dsimp only;refine ae d (fun _=>c.o.c1) ?_;clear d K b;have b:=c.o.c1;obtain⟨O,o6⟩:∃O:Bool,((v3:Int) == 0)=O:=⟨_,rfl⟩;refine bJ 4 (.bool O) b ?_ ?_
      ·intro u y;try dsimp only at y
       go_simp
       try with_reducible rfl
      try simp only[upP]
      clear o6 o5;refine ak 6 (fun K d=>?_);go_simp
      go_at_call 160
      refine (Gi _ j a r q (p7+1) c.o.rd (by omega) E).mono ?_;rintro e w4 ⟨gv,p8,rfl,t4,i0,i1,b0,b1⟩;have k:=Kz (c.o.drawn b0 b1);clear b0 b1;dsimp only;refine ae d (fun _=>k.o.c1) ?_;clear d K b;have b:=k.o.c1;refine af 7 b ?_;refine ah 8 (fun K d=>?_);go_simp
      have a4:K_ w4 (w4.alloc (.cells #[.slice none 0 0,.int .i64 0,.slice none 0 0,.int .i64 0,.int .i64 0,.bool true,.bool O,.string gv] 83)):=ag _ _;have h:=Kz (k.o.kept a4);have c6:=Kz a4;refine ae d (fun _=>h.o.c1) ?_;clear d K b a4;obtain⟨ic,c1,c3,c4,c5⟩:=aN Tryz.jJ;refine ah 9 (fun K d=>?_);refine step_append_lies _ rfl (.tmp 118) (.tmp 125) 75 rfl (w.alloc (.cells #[.int .i64 0,.slice none 0 0] 77)).heap.size 83 ic _ 8 96 underlying75 c1 c3 c4 c5 rfl (by decide) (.slice d9 L.length e1) L.length xs (by simp[Act.eval]) h.o.own ⟨w4.heap.size,0,none⟩ 1 1 [.slice none 0 0,.int .i64 0,.slice none 0 0,.int .i64 0,.int .i64 0,.bool true,.bool O,.string gv] (by simp[Act.eval]) rfl (fun D u y=>by rw[KZ];exact Xz w4 #[.slice none 0 0,.int .i64 0,.slice none 0 0,.int .i64 0,.int .i64 0,.bool true,.bool O,.string gv] 83 D u (by simpa using y)) (iL ⟨[],0,[],0,0,true,O,gv⟩ none 0 none 0) (by omega) (by unfold maxLen;omega) (by omega) h.o.kb.size _ rfl ?_;intro g e4 w5 c8 a5 g1 g2;have Y:=Kz (k.o.fe c6.o a5);have k9:kN w4 9 177 [.slice none 0 0,.int .i64 0,.slice none 0 0,.int .i64 0,.int .i64 0,.bool true,.bool O,.string gv] ⟨[],0,[],0,0,true,O,gv⟩:=⟨none,0,none,0,rfl,.inl rfl,.inl rfl,JP _⟩;have l0:Xj.Tiny ⟨[],0,[],0,0,true,O,gv⟩:=⟨by simp,fun x hx=>by simp at hx,⟨by show (-1000:Int)<=0;omega,by show (0:Int)<=1000;omega⟩,by simp,fun x hx=>by simp at hx,mH ⟨by show (-1000:Int)<=0;omega,by show (0:Int)<=1000;omega⟩,⟨by show (-1000:Int)<=0;omega,by show (0:Int)<=1000;omega⟩,by show gv.size<=300;omega⟩;have P:=Kz (k.o.push c6.o k9 l0 (jH (s:=⟨[],0,[],0,0,true,O,gv⟩) (fun _=>⟨rfl,rfl⟩) (fun _=>⟨rfl,rfl⟩)) c8 a5);obtain⟨⟨_,y6⟩,f6⟩:=Y.o.2.row.at (i:=1) (by omega);have z6:=Y.o.2.lt;have y7:=Y.o.1
      skip
      clear c8 a5 g1 g2 k9 l0;refine ae d (fun _=>y7) ?_;clear d K;have b:=y7;refine af 10 b ?_;refine ah 11 (fun K d=>?_);go_simp
      refine ae d (fun g3=>Lv rfl g3) ?_;clear d K;refine aB ?_;have t5:=P.o.c0;have o1:=P.o.c1;have oz:=P.o.row.lt;have d3:=Kz (g8.o.but P.o.kb (by omega));obtain⟨⟨_,t6⟩,g0⟩:=d3.o.row.at (i:=0) (by omega);obtain⟨⟨_,t7⟩,t8⟩:=d3.o.row.at (i:=1) (by omega);have xz:=d3.o.lt;clear b y6 f6 z6 y7;go_wp2
      have hR:=JU (w5.setCell ⟨w1.heap.size,1,none⟩ (.slice (some ⟨g,0,none⟩) (L.length+1) e4)) w.heap.size 0 [.int .i64 cost,.slice (some ⟨g,0,none⟩) (L.length+1) e4] (d3.o.row.there (o:=0) (m:=2) (JP _));refine X_ [.int .i64 cost,.slice (some ⟨g,0,none⟩) (L.length+1) e4] _ results126 rfl hR underlying77 rfl Tryz.g_ rfl ?_;exact P.o.ends d3.o k0 l1.o rfl (by omega) (by omega) (by rw[KS];show 1<=L.length+1;omega) (by rw[KS];show L.length+1<=20;omega) (by omega)
theorem wL(w:LP)(b:Nat)(a:LM)(d:Nat)(c:List UInt8)(p i n:Nat)(f h:Int)(j:f= (i:Int))(k:h= (n:Int))(l:Rd w b a d c p)(m:p<=800000)(q:i<=100000)(r:n<=100000)(s:c.length<=2000):
  Calls prog 126 #[.pointer (some ⟨b,0,none⟩),.int .i64 f,.int .i64 h] w fun e w'=>p_ w w' b a d c p 100 e:=by
 rw[j,k];exact uF w b a d c p i n l m q r s
theorem jd(w:LP)(i:Nat)(a:Int)(b:a= (i:Int))(c:i<=100000):
  Calls prog 24 #[.int .i64 a] w fun e w'=>Ae w w' e:=by
 rw[b];exact jG w i c
def qN(F t M N B:Nat):Prop:=∀(w:LP) (rb:Nat) (a:LM) (cap:Nat) (bs:List UInt8) (p:Nat),Rd w rb a cap bs p->p<=B->bs.length<=2000->
 Calls prog F #[.pointer (some ⟨rb,0,none⟩)] w fun e w'=>kY M N w w' rb a cap bs p t e
theorem kY.via{N:Nat}{h:LP}{f t t':Nat}{e:Ending}(A:kY M N w1 w2 rb a cap bs f t e)(d:Xk rb (rb+1) h w1)(c:K_ w h)(O:p<=f)(h2:f+t<=p+t')(B:Rd w rb a cap bs p){b:Nat}(C:w.heap.size<=b)(D:aC w1 b 25 1)(P:b≠rb):
  ∃v,e= .returned (.agg #[v])/\aC w2 b 25 1/\(∃i vn j,v= .slice i vn j)/\kY M N w (w2.setCell ⟨b,0,none⟩ v) rb a cap bs p t' e:=by
 obtain⟨v,L,E,k,Q,R,F,G,l,H,m,I⟩:=A;have n:aC w2 b 25 1:=D.but m (by omega);have J:=n.same (o:=0) v;have q:Below w.heap.size w2 (w2.setCell ⟨b,0,none⟩ v):=(Below.refl _ _).setCell (p:=⟨b,0,none⟩) C _;have r:Xk rb (rb+1) w w1:=⟨d.os.trans c.os,d.tape.trans c.tape,d.output.trans c.output,JS c.size d.size,fun s x K=>(d.block s (JQ x c.size) K).trans (c.block s x)⟩;have y:=r.trans m;obtain⟨i,j,rfl,_,_⟩:=l.slice;exact⟨_,k,n,⟨_,_,_,rfl⟩,_,L,E,k,by omega,by omega,F,G,l.same J (by decide) (by decide) (by decide) (by decide),H.below B q y.size,y.below q,I.mono r.size⟩
theorem EX(c7:Hid (qN 22 400 20 60 700000))(c8:Hid (qN 125 400 20 60 700000)):qN 93 1100 20 60 600000:=by
 intro w f a j l p e hp C;have U:K_ w (w.alloc (.cells #[.slice none 0 0] 25)):=ag _ _;have b0:Hid (Rd (w.alloc (.cells #[.slice none 0 0] 25)) f a j l p):=e.kept U;have x:Hid (aC (w.alloc (.cells #[.slice none 0 0] 25)) w.heap.size 25 1):=aC.made w _ _;have e9:=e.row.lt;have a4:=Kz e;clear e;go_enter func93,ntmps93
 go_wp2_with fail
 refine (aK _ f a j l p _ 10 rfl b0.o (by omega) (by omega) C).mono ?_;rintro A w1 ⟨V,rfl,f1,b1,a5⟩;have⟨W,X⟩:=aH b1 a5;have D:=Kz (x.o.but a5 (by omega));clear b1 a5;by_cases Y:V=0
 ·have c9:((V:Int) == 0)=true:=by simp[Y]
  clear Y;go_wp2_with fail
  refine (c7.out _ f a j l (p+1) W.o (by omega) C).mono ?_;intro A w2 E;obtain⟨v,rfl,n,⟨F,G,H,rfl⟩,I⟩:=E.via (p:=p) X.o U (by omega) (by omega) a4.o (JP _) D.o (by omega) (t':=1100);have⟨HD,a6⟩:=aH I n;have z2:=n.lt;obtain⟨⟨_,u0⟩,f0⟩:=n.row.at (i:=0) (by omega);clear I E n;go_wp2
  have e:=JU w2 w.heap.size 0 [.slice F G H] (a6.o.row.there (o:=0) (m:=1) (JP _));exact X_ [.slice F G H] _ results93 rfl e underlying25 rfl Tryz.fC rfl HD.o
 have c9:((V:Int) == 0)=false:=by simpa using Y
 clear Y;by_cases h4:(V:Int)<4
 ·go_wp2_with fail
  refine (c8.out _ f a j l (p+1) W.o (by omega) C).mono ?_;intro A w2 E;obtain⟨v,rfl,n,⟨F,G,H,rfl⟩,I⟩:=E.via (p:=p) X.o U (by omega) (by omega) a4.o (JP _) D.o (by omega) (t':=1100);have⟨HD,a6⟩:=aH I n;have z2:=n.lt;obtain⟨⟨_,u0⟩,f0⟩:=n.row.at (i:=0) (by omega);clear I E n;go_wp2
  have e:=JU w2 w.heap.size 0 [.slice F G H] (a6.o.row.there (o:=0) (m:=1) (JP _));exact X_ [.slice F G H] _ results93 rfl e underlying25 rfl Tryz.fC rfl HD.o
 have a7:Hid (fD 20 (w.alloc (.cells #[.slice none 0 0] 25)) (w1.alloc (.cells #[.slice none 0 0] 25)) f w1.heap.size a j l (p+1) (.slice none 0 0) [] []):=fD.made b0.o W.o X.o;have b2:Hid (aC (w1.alloc (.cells #[.slice none 0 0] 25)) w.heap.size 25 1):=D.o.kept (ag _ _);go_wp2_with fail
 refine (aK _ f a j l (p+1) _ 9 rfl a7.o.rd (by omega) (by omega) C).mono ?_;rintro A w2 ⟨v2,rfl,f2,b3,a8⟩;have b4:=Kz (a7.o.drawn b3 a8);have J:=Kz (b2.o.but a8 (by omega));have d0:w.heap.size≠w1.heap.size:=fun A=>by have:=D.o.lt;omega
 obtain⟨L,f3⟩:∃L:Nat,L=2+v2:=⟨_,rfl⟩;clear b3 a8 a7 b2 D W X;go_wp2
 go_loopg [6] L (fun g d1 wr=>∃(k:Nat) (p':Nat) (v:LQ) (Z:List Qq) (a0:List LQ),d1= .int .i64 (k:Int)/\k+g=L/\Z.length=k/\p<=p'/\p'<=p+2+100*k/\aC wr w.heap.size 25 1/\fD 20 (w.alloc (.cells #[.slice none 0 0] 25)) wr f w1.heap.size a j l p' v Z a0)
 case atStart=>exact⟨0,p+2,_,[],[],rfl,by omega,rfl,by omega,by omega,J.o,b4.o⟩
 case round=>
  clear b4 J;obtain⟨k,p7,v,Z,a0,rfl,hk,hL,f4,f5,b5,B⟩:=hrel;obtain⟨wO,rfl⟩:=aj wr;have⟨HO,q,x⟩:=dK B hL b5;obtain⟨M,O,rfl⟩:=ax B.own;have y0:=B.c0;have zb:=B.row.lt;have f6:=B.kb.size;rw[hL] at y0;clear B hL b5;by_cases f7:(k:Int)<2+ (v2:Int)
  ·have d2:Hid (∀v:LP,v.cell? ⟨w1.heap.size,0,none⟩=wO.cell? ⟨w1.heap.size,0,none⟩->(fun (v:LP)=>v.cell? ⟨w1.heap.size,0,none⟩=some (.slice M k O)) v):=fun v hv=>hv.trans y0
   obtain⟨d3,d4,d5,d6,d7⟩:=aN Tryz.lX;go_wp2
   refine Qx.region (by kernel_rfl) (fun (v:LP)=>v.cell? ⟨w1.heap.size,0,none⟩=some (.slice M k O)) 12 y0 (fun b=>?_);refine af 0 b ?_;refine af 1 b ?_;refine af 2 b ?_;refine af 4 b ?_;refine af 5 b ?_;refine af 6 b ?_;refine ak 3 (fun K c=>?_);go_simp
   go_at_call 24
   refine (jd _ k _ rfl (by omega)).mono ?_;rintro A w3 ⟨r,rfl,f8,k3⟩;have K3:K_ wO w3:=(aL _).trans k3;dsimp only;refine c.out _ _ (fun _=>d2.o w3 (K3.cell zb)) ?_;clear c K b k3;have a1:=Kz (HO.o.kept K3);have J:=Kz (x.o.kept K3);have y3:=(K3.cell (o:=0) zb).trans y0;have f9:=a1.o.row.lt;have b:=y3;try simp only[upP]
   refine ak 7 (fun K c=>?_);go_simp
   go_at_call 126
   refine (wL _ f a j l p7 k L _ _ rfl (by omega) a1.o.rd (by omega) (by omega) (by omega) C).mono ?_;rintro A P ⟨cost,us,s,p8,rfl,g0,g1,d8,d9,b6,b7,b8,b9,a9⟩;have Q:=Kz (a1.o.drawn b9 a9);have e0:=Kz (J.o.but a9 (by omega));have y4:=Q.o.c0;rw[q.o] at y4;have c1:=Kz b8.g;obtain⟨R,S,rfl⟩:=c1.o.slice;have e1:Hid (Qq.TinyN 20 ⟨r,cost,s⟩):=⟨by show r.size<=300;omega,b6,by show s.length<=21;omega,b7⟩;dsimp only;refine c.out _ _ (fun _=>y4) ?_;clear c K b b8 b9 a9 d8 d9 b6 b7 y3 a1 J;have e2:=Q.o.row.lt;have b:=y4;try simp only[upP]
   refine af 8 b ?_;refine ah 9 (fun K c=>?_);go_simp
   have y:K_ P (P.alloc (.cells #[.string r,.int .i64 cost,.slice R s.length S] 79)):=ag _ _;refine ae c (fun _=>(y.cell e2).trans y4) ?_;clear c K b;refine ah 10 (fun K c=>?_);have c2:=Kz (Q.o.kept y);have a2:=c2.o.own;rw[q.o] at a2;have e3:(w.alloc (.cells #[.slice none 0 0] 25)).heap.size<=(P.alloc (.cells #[.string r,.int .i64 cost,.slice R s.length S] 79)).heap.size:=c2.o.kb.size;refine step_append_lies _ rfl (.tmp 27) (.tmp 35) 23 rfl (w.alloc (.cells #[.slice none 0 0] 25)).heap.size 79 d3 _ 3 48 underlying23 d4 d5 d6 d7 rfl (by decide) (.slice M k O) k a0 (by simp[Act.eval]) a2 ⟨P.heap.size,0,none⟩ 1 1 [.string r,.int .i64 cost,.slice R s.length S] (by simp[Act.eval]) rfl (mG _ _ _ _) (mO _ _ _ _ _) (by omega) (by unfold maxLen;omega) (by omega) e3 _ rfl ?_;intro g c3 w6 c4 a3 e4 g2;have T:=Q.o.fe y (by rw[q.o];exact a3);have y6:=T.1;rw[q.o] at y6;have g3:=T.2.lt;have g4:=(T.2.row.at (i:=0) (by omega)).2;obtain⟨vo,g5⟩:=(T.2.row.at (i:=0) (by omega)).1;have e5:Hid (fD 20 (w.alloc (.cells #[.slice none 0 0] 25)) (w6.setCell ⟨w1.heap.size,0,none⟩ (.slice (some ⟨g,0,none⟩) (k+1) c3)) f w1.heap.size a j l p8 (.slice (some ⟨g,0,none⟩) (k+1) c3) (Z++ [⟨r,cost,s⟩]) (a0++ [.string r,.int .i64 cost,.slice R s.length S])):=
    Q.o.push (d:=⟨r,cost,s⟩) y (c1.o.same (u:=25) (.aF y) (by decide) (by decide) (by decide)) e1.o (by rw[q.o];exact c4) (by rw[q.o];exact a3)
   have c5:ay 79 (P.alloc (.cells #[.string r,.int .i64 cost,.slice R s.length S] 79)) w6:=ay.aI a2 a3;have e6:Hid (aC w6 w.heap.size 25 1):=by
    obtain⟨c6,e7,e8⟩:=e0.o.kept y;exact⟨c6,c5 _ c6 _ _ (by decide) e7,e8⟩
   clear T a2 c4 a3 e4 c5 y;refine ae c (fun _=>y6) ?_;clear c K;have b:=y6;refine af 11 b ?_;refine ah 12 (fun K c=>?_);go_simp
   refine ae c (fun h=>Lv rfl h) ?_;clear c K;refine aB ?_;go_wp2
   go_roundg (gk-1)
   case rel=>exact⟨k+1,p8,_,_,_,by go_num,by omega,by rw[KS,q.o];rfl,by omega,by omega,e6.o.block (Below.heap_setCell _ _ _ _ (by simpa using d0)),e5.o⟩
   case measure=>omega
  ·obtain⟨⟨_,x0⟩,g6⟩:=x.o.row.at (i:=0) (by omega);have z1:=x.o.lt;go_wp2
   have e:=JU wO w.heap.size 0 [.slice M k O] (x.o.row.there (o:=0) (m:=1) (JP _));have hE:=HO.o.ends (N:=60) (p:=p) (t:=1100) x.o (JP _) U a4.o rfl (by omega) (by omega) (by have:=q.o;omega);rw[q.o] at hE;exact X_ [.slice M k O] _ results93 rfl e underlying25 rfl Tryz.fC rfl hE
section
variable {M : Nat} {w wr : LP} {rb ob sb : Nat} {a : LM} {cap : Nat} {bs : List UInt8} {p : Nat} {cost : Int} {v : LQ} {L : List Xj} {xs : List LQ} {k : Nat} {va vc : LQ} {s : Xj}
theorem dS.fin(h:dS M w wr rb ob sb a cap bs p cost v L xs k va vc s)(x:Bool):dS M w (wr.setCell ⟨sb,5,none⟩ (.bool x)) rb ob sb a cap bs p cost v L xs k va vc {s with fin:=x}:=
 h.field (h.st.box.fin x) rfl rfl ⟨h.st.tiny.asks,h.st.tiny.dM,h.st.tiny.on,h.st.tiny.cases,h.st.tiny.dh,h.st.tiny.els,h.st.tiny.fall,h.st.tiny.give⟩
theorem dS.bad(h:dS M w wr rb ob sb a cap bs p cost v L xs k va vc s)(x:Bool):dS M w (wr.setCell ⟨sb,6,none⟩ (.bool x)) rb ob sb a cap bs p cost v L xs k va vc {s with bad:=x}:=
 h.field (h.st.box.bad x) rfl rfl ⟨h.st.tiny.asks,h.st.tiny.dM,h.st.tiny.on,h.st.tiny.cases,h.st.tiny.dh,h.st.tiny.els,h.st.tiny.fall,h.st.tiny.give⟩
theorem dS.give(h:dS M w wr rb ob sb a cap bs p cost v L xs k va vc s)(x:LK)(c:x.size<=300):dS M w (wr.setCell ⟨sb,7,none⟩ (.string x)) rb ob sb a cap bs p cost v L xs k va vc {s with give:=x}:=
 h.field (h.st.box.give x) rfl rfl ⟨h.st.tiny.asks,h.st.tiny.dM,h.st.tiny.on,h.st.tiny.cases,h.st.tiny.dh,h.st.tiny.els,h.st.tiny.fall,c⟩
theorem dS.on(h:dS M w wr rb ob sb a cap bs p cost v L xs k va vc s)(x:Int)(c: -1000<=x/\x<=1000):dS M w (wr.setCell ⟨sb,1,none⟩ (.int .i64 x)) rb ob sb a cap bs p cost v L xs k va vc {s with on:=x}:=
 h.field (h.st.box.on x) rfl rfl ⟨h.st.tiny.asks,h.st.tiny.dM,c,h.st.tiny.cases,h.st.tiny.dh,h.st.tiny.els,h.st.tiny.fall,h.st.tiny.give⟩
theorem dS.els(h:dS M w wr rb ob sb a cap bs p cost v L xs k va vc s)(x:Int)(c:In64 x):dS M w (wr.setCell ⟨sb,3,none⟩ (.int .i64 x)) rb ob sb a cap bs p cost v L xs k va vc {s with els:=x}:=
 h.field (h.st.box.els x) rfl rfl ⟨h.st.tiny.asks,h.st.tiny.dM,h.st.tiny.on,h.st.tiny.cases,h.st.tiny.dh,c,h.st.tiny.fall,h.st.tiny.give⟩
theorem dS.fall(h:dS M w wr rb ob sb a cap bs p cost v L xs k va vc s)(x:Int)(c: -1000<=x/\x<=1000):dS M w (wr.setCell ⟨sb,4,none⟩ (.int .i64 x)) rb ob sb a cap bs p cost v L xs k va vc {s with fall:=x}:=
 h.field (h.st.box.fall x) rfl rfl ⟨h.st.tiny.asks,h.st.tiny.dM,h.st.tiny.on,h.st.tiny.cases,h.st.tiny.dh,h.st.tiny.els,c,h.st.tiny.give⟩
end
theorem dS.Iy{c e:Nat}{cost:Int}{k:Nat}{f d:LQ}(h:dS M w wr rb c e a cap bs p cost v L xs k f d s)(i:K_ wr w1)(j:w1.grownBy w2 d.ownBlock):w2.cell? ⟨c,1,none⟩=some v:=by
 have b:=h.kept i;exact ((b.row.eQ (ay.aI b.st.cases j) (by decide)).2 1).trans b.c1
theorem dS.cut{c m:Nat}{cost:Int}{k g b:Nat}{n q:LQ}(h:dS M w wr rb c m a cap bs p cost (.slice (some ⟨g,0,none⟩) L.length b) L xs k n q s):
  sJ M w (wr.setCell ⟨c,1,none⟩ (.slice (some ⟨g,0,none⟩) k b)) rb c a cap bs p cost (.slice (some ⟨g,0,none⟩) k b) (L.take k):=by
 have C:=h.kl;have r:=h.row.same (o:=1) (.slice (some ⟨g,0,none⟩) k b);have f:Below w.heap.size wr (wr.setCell ⟨c,1,none⟩ (.slice (some ⟨g,0,none⟩) k b)):=(Below.refl _ _).setCell h.obl _;obtain⟨D,t⟩:=h.st.rd0;have e:(L.take k).length=k:=by rw[Kt];omega
 rcases h.own.2 with⟨d,_⟩|⟨E,F,v,d,G,x,H,_,I,_⟩
 ·simp at d
 simp only[KX,KT,LG,and_true,true_and] at d;obtain⟨rfl,rfl⟩:=d;refine⟨h.st.rd.below t f h.st.kb.size,h.st.kb.below f,h.row.set _,(Xx (by omega) _).trans h.c0,bG h.row.row (by omega) _,StW.same ⟨some ⟨g,0,none⟩,b,by rw[e],by rw[e];omega,fun i j=>?_⟩ r (by decide) (by decide) (by decide),fun y A=>h.tiny y (List.mem_of_mem_take A)⟩;rw[e] at j;have l:=(h.oth i (by omega) (by omega)).1;have B:(L.take k).getD i Xj.zero=L.getD i Xj.zero:=by simp[List.getD,j]
 rw[B];exact⟨g,0,v,_,kJ xs i,rfl,x,oO h.own i,l.step,l.ng⟩
theorem ji.fin{c:Nat}{cost:Int}(h:ji M w wr rb c a cap bs p cost v L xs):sJ M w wr rb c a cap bs p cost v L:=
 ⟨h.rd,h.kb,h.row,h.c0,h.c1,StW.fM h.own h.pack h.ng,h.tiny⟩
theorem dS.act{b d:Nat}{cost:Int}{k:Nat}{e f:LQ}(h:dS M w wr rb b d a cap bs p cost v L xs k e f s)(c:dU wr w.heap.size xs L):ji M w wr rb b a cap bs p cost v L xs:=
 ⟨h.st.rd,h.st.rd0,h.obl,h.st.kb,h.row,h.c0,h.c1,h.own,c.packed,h.tiny,c.ng⟩
def Ji(M:Nat)(A0 wx:LP)(rb ob sb:Nat)(a:LM)(cap:Nat)(bs:List UInt8)(p:Nat)(v:LQ)(L:List Xj)(xs:List LQ)(k:Nat):Prop:=
 ∃(cost:Int) (va vc:LQ) (s:Xj) (p':Nat),(-1000<=cost/\cost<=1000)/\p<=p'/\p'<=p+4/\dS M A0 wx rb ob sb a cap bs p' cost v L xs k va vc s
theorem DU(mN:Nat)(o4:mN<=900)(w:LP)(y:Nat)(a:LM)(E:Nat)(B:List UInt8)(p:Nat)(cost:Int)(sa:LM)(b6:Nat)(L:List Xj)(hR:Rd w y a E B p)(hp:p<=800000)(P:B.length<=2000)(hL:L.length<=21)(Q: -1000<=cost/\cost<=1000)(g3:∀s∈L,s.TinyN mN)(hS:jN w sa L):
  Calls prog 97 #[.pointer (some ⟨y,0,none⟩),.agg #[.int .i64 cost,.slice sa L.length b6]] w fun e w'=>IA (mN+10) w w' y a E B p 10 e:=by
 obtain⟨N,b7⟩:=aj ((w.alloc (.cells #[.int .i64 cost,.slice sa L.length b6] 77)).alloc (.cells #[.int .i64 0,.slice none 0 0] 77));have k0:K_ w N:=by rw[b7];exact (ag _ _).alloc _
 have i6:N.heap.size=w.heap.size+2:=by rw[b7];simp
 have d6:Hid (aC N (w.heap.size+1) 77 2):=by
  rw[b7];refine Kz ?_;have:=aC.made (w.alloc (.cells #[.int .i64 cost,.slice sa L.length b6] 77)) #[.int .i64 0,.slice none 0 0] 77;simpa using this
 have o5:N.cell? ⟨w.heap.size,0,none⟩=some (.int .i64 cost):=by
  rw[b7,K_.cell (w:=w.alloc (.cells #[.int .i64 cost,.slice sa L.length b6] 77)) (ag _ _) (by simp)];exact Xz w _ _ 0 _ rfl
 have o6:N.cell? ⟨w.heap.size,1,none⟩=some (.slice sa L.length b6):=by
  rw[b7,K_.cell (w:=w.alloc (.cells #[.int .i64 cost,.slice sa L.length b6] 77)) (ag _ _) (by simp)];exact Xz w _ _ 1 _ rfl
 have az:w.heap.size<N.heap.size:=by omega
 have d7:=Kz hR;have d8:=Kz (hR.kept k0);have o7:=hR.row.lt;have i7:=Kz g3;have i8:Hid (∀s∈L,s.TinyN (mN+10)):=fun s hs=>(g3 s hs).mono (by omega)
 clear hR g3;go_enter func97,ntmps97
 go_upto_region 1 with fail
 rw[<-b7];have o8:=Kz i6;clear b7 i6;go_wp2_with fail
 refine (Bl _ cost sa b6 L (by omega) (mN:=mN) (by omega) i7.o (hS.kept k0)).mono ?_;rintro e w1 ⟨v1,xs,rfl,g4,i9,k1⟩;obtain⟨av,F,rfl⟩:=ax g4;have kk:K_ w1 (w1.alloc (.cells #[.int .i64 cost,.slice av L.length F] 77)):=ag _ _;have a2:=Kz (k1.trans kk);have b2:=Kz (ai g4 kk);have d9:=Kz (i9.same (u:=90) (ay.aF kk) (by decide) (by decide));have c7:Hid (aC (w1.alloc (.cells #[.int .i64 cost,.slice av L.length F] 77)) w1.heap.size 77 2):=aC.made w1 _ _;have c8:Hid ((w1.alloc (.cells #[.int .i64 cost,.slice av L.length F] 77)).cell? ⟨w1.heap.size,0,none⟩=some (.int .i64 cost)):=Xz w1 _ _ 0 _ rfl;have b3:Hid ((w1.alloc (.cells #[.int .i64 cost,.slice av L.length F] 77)).cell? ⟨w1.heap.size,1,none⟩=some (.slice av L.length F)):=Xz w1 _ _ 1 _ rfl;have m0:N.heap.size<=w1.heap.size:=k1.size;clear g4 i9 k1 kk;go_upto_region 2 with fail
 obtain⟨W2,j0⟩:=aj (w1.alloc (.cells #[.int .i64 cost,.slice av L.length F] 77));rw[<-j0] at a2 b2 d9 c7 c8 b3⊢;clear j0;have o1:=b3.o;have oz:=c7.o.lt;by_cases e2:L.length=0
 ·have m1:((L.length:Int) == 0)=true:=by simp[e2]
  have S:=Kz (sJ.made (d8.o.kept a2.o) (.aF a2.o) c7.o c8.o b3.o b2.o d9.o i8.o);clear e2;have G:=Kz (d6.o.kept a2.o);obtain⟨⟨_,x0⟩,g5⟩:=G.o.row.at (i:=0) (by omega);obtain⟨⟨_,x1⟩,g1⟩:=G.o.row.at (i:=1) (by omega);have xz:=G.o.lt;have o0:=c8.o;go_wp2
  have hR:=JU W2 (w.heap.size+1) 0 [.int .i64 cost,.slice av L.length F] (G.o.row.there (o:=0) (m:=2) (JP _));exact X_ [.int .i64 cost,.slice av L.length F] _ results97 rfl hR underlying77 rfl Tryz.g_ rfl (S.o.ends G.o (by omega) k0 d7.o rfl (JP _) (by omega) (by omega) Q)
 ·have m1:((L.length:Int) == 0)=false:=by simpa using e2
  go_wp2_with fail
  refine (aK _ y a E B p _ L.length rfl (d8.o.kept a2.o) (by omega) (by omega) P).mono ?_;rintro e Y ⟨U,rfl,hk,j1,g6⟩;have g7:U<L.length:=by omega
  have e3:=g6.sameKind (d8.o.kept a2.o);have j2:=Kz j1;have m2:Hid (Xk y (y+1) N Y):=(Xk.aF a2.o).trans g6;have e4:=c7.o.eQ e3 (by decide);have g8:=Kz e4.1;have o0:=(e4.2 0).trans c8.o;have j3:=(e4.2 1).trans b3.o;have e5:=Kz (aJ b2.o e3 (by decide));have e6:=Kz (d9.o.same e3 (by decide) (by decide));have m3:=g8.o.lt;obtain⟨s,c9⟩:=aj (L.getD U Xj.zero);have j4:=e6.o.each U g7;rw[<-c9] at j4;obtain⟨aa,ca,ac,cc,g9,g1,g2⟩:=j4;rcases e5.o.2 with⟨_,e0⟩|⟨g,d0,m4,ev,o9,h0,j5,_,c5,_⟩
  ·exact Lv e0 e2
  simp only[KX,true_and] at ev;obtain⟨rfl,rfl⟩:=ev;have a9:=oO e5.o U;rw[g9] at a9;have c0:=a9 0 _ rfl;have j6:=a9 1 _ rfl;have j7:=a9 2 _ rfl;have c3:=a9 3 _ rfl;have c4:=a9 4 _ rfl;have j8:=a9 5 _ rfl;have j9:=a9 6 _ rfl;have k2:=a9 7 _ rfl;rw[La] at c0;simp only[KH] at c0 j6 j7 c3 c4 j8 j9 k2;have gz:=aO h0;have e7:=Kz (dS.made j2.o d8.o m2.o m0 g8.o o0 j3 e5.o e6.o g7 i8.o c9 g9);have m5:Hid (aC Y g 83 (F*8)):=⟨m4,h0,c5⟩;have p0:L.length<=F:=j5;have p1:(U:Int)<(L.length:Int):=by omega
  have h1:s.TinyN mN:=i7.o s (by rw[c9];simp[List.getD,g7]);have p2:=h1.asks;have p3:=h1.cases;clear h1;have p4:=Kz c9;clear a9 h0 c5 g1 g2 g9 j5 j1 g6 e3 e4 c9;go_wp2_with fail
  refine (aK _ y a E B (p+1) _ 14 rfl e7.o.st.rd (by omega) (by omega) P).mono ?_;rintro e W ⟨u,rfl,A,k3,h2⟩;have n:=Kz (e7.o.drawn k3 h2);have k4:=h2.sameKind e7.o.st.rd;have d1:K_ Y (Y.alloc (.cells #[.slice aa s.asks.length ca,.int .i64 s.on,.slice ac s.cases.length cc,.int .i64 s.els,.int .i64 s.fall,.bool s.fin,.bool s.bad,.string s.give] 83)):=ag _ _;have k5:=Kz ((e6.o.same (u:=90) (ay.aF d1) (by decide) (by decide)).same k4 (by decide) (by decide));have e8:Y.heap.size<W.heap.size:=n.o.st.box.row.lt;clear k3 h2 e7 e6 d9 c0 j6 j7 c3 c4 j8 j9 k2 m5 g8 e5 o0 j3 o1 c8 b3 c7 b2 d1 k4 j2 gz m3 oz
  go_upto_block 0 with fail
  go_cut [8,9,10] from 31 to 198 (fun _ _ _ wx=>Ji (mN+10) N wx y w1.heap.size Y.heap.size a E B (p+2) (.slice (some ⟨g,0,none⟩) L.length F) L xs U)
  case first=>
   have b8:u=0\/u=1\/u=2\/u=3\/u=4\/u=5\/u=6\/u=7\/u=8\/u=9\/u=10\/u=11\/u=12\/u=13:=by omega
   have y5:=n.o.st.box.c5;have y6:=n.o.st.box.c6;have y3:=n.o.st.box.c3;obtain⟨_,f5⟩:=n.o.st.box.cell (o:=5) (by omega);obtain⟨_,f6⟩:=n.o.st.box.cell (o:=6) (by omega);obtain⟨_,f3⟩:=n.o.st.box.cell (o:=3) (by omega);obtain⟨_,f7⟩:=n.o.st.box.cell (o:=7) (by omega);clear A;obtain rfl|rfl|rfl|rfl|rfl|rfl|rfl|rfl|rfl|rfl|rfl|rfl|rfl|rfl:=b8
   ·have d1:K_ W (W.alloc (.cells #[.int .i64 0,.int .i64 20,.int .i64 21] 3)):=ag _ _;have r:=Kz (n.o.kept d1);go_wp2_with fail
    refine (aK _ y a E B (p+2) _ 3 rfl r.o.st.rd (by omega) (by omega) P).mono ?_;rintro e l ⟨q,rfl,hq,k,i⟩;have j:=Kz (r.o.drawn k i);obtain⟨c,x,C,D⟩:=tZ [0,20,21] i n.o.st.rd.row.lt q (by show q<3;omega) (by decide);obtain⟨⟨_,r0⟩,p5⟩:=j.o.row.row.at (i:=0) (by omega);have rz:=j.o.row.lt;have lz:W.heap.size<l.heap.size:=JQ (by simp) i.size;have p6:(q:Int)<3:=by omega
    clear k i r d1;go_wp2
    go_meet
    exact⟨c,_,_,_,p+3,⟨C,D⟩,by omega,by omega,j.o.cost⟩
   ·go_wp2
    go_meet
    exact⟨cost,_,_,_,p+2,Q,by omega,by omega,n.o.fin _⟩
   ·go_wp2
    go_meet
    exact⟨cost,_,_,_,p+2,Q,by omega,by omega,n.o.bad _⟩
   ·go_wp2_with fail
    refine (aK _ y a E B (p+2) _ 2 rfl n.o.st.rd (by omega) (by omega) P).mono ?_;rintro e l ⟨q,rfl,hq,k,i⟩;have j:=Kz (n.o.drawn k i);obtain⟨⟨_,r7⟩,p7⟩:=j.o.st.box.cell (o:=7) (by omega);have rz:=j.o.st.box.row.lt;clear k i;go_wp2_with fail
    refine (tX _ ⟨#[103]⟩ _ (30+q) (by push_cast;rfl) (by omega) (by decide)).mono ?_;rintro e w6 ⟨⟨M,rfl,t⟩,rfl⟩;have d2:M.size<=300:=by have e1:(⟨#[103]⟩:LK).size=1:=rfl;rw[e1] at t;omega
    go_wp2
    go_meet
    exact⟨cost,_,_,_,p+3,Q,by omega,by omega,j.o.give _ d2⟩
   ·have r:=Kz (n.o.kept (aL W));have T:=r.o.st.box.c0;go_upto_region 17 with fail
    refine Qx.region (by kernel_rfl) (fun w'=>w'.cell? ⟨Y.heap.size,0,none⟩=some (.slice aa s.asks.length ca)) 14 T (fun d=>?_);generalize a4:W.drew=Z at r d⊢;clear a4 T;refine af 0 d ?_;refine af 1 d ?_;refine af 2 d ?_;refine af 7 d ?_;refine ak 3 (fun K b=>?_);go_simp
    go_at_call 21
    refine (aK _ y a E B (p+2) _ 2 rfl r.o.st.rd (by omega) (by omega) P).mono ?_;rintro e l ⟨q,rfl,hq,k,i⟩;have j:=Kz (r.o.drawn k i);clear k i;dsimp only;refine ae b (fun _=>j.o.st.box.c0) ?_;clear b K;clear d r;have d:=j.o.st.box.c0;have m6:IntKind.i64.wrap (20+ (q:Int))=20+ (q:Int):=by simp[IntKind.wrap,IntKind.bits,IntKind.signed];omega
    refine bJ 4 (.int .i64 (20+ (q:Int))) d ?_ ?_
    ·intro u A;try dsimp only at A
     go_simp
     try with_reducible rfl
    try simp only[upP]
    refine ak 5 (fun K b=>?_);go_simp
    go_at_call 96
    refine (tX _ ⟨#[110]⟩ _ (20+q) (by push_cast;rfl) (by omega) (by decide)).mono ?_;rintro e w6 ⟨⟨M,rfl,t⟩,h3⟩;have d2:M.size<=300:=by have e1:(⟨#[110]⟩:LK).size=1:=rfl;rw[e1] at t;omega
    subst h3;dsimp only;refine ae b (fun _=>j.o.st.box.c0) ?_;clear b K;have k6:∀c∈([⟨#[]⟩,⟨#[45]⟩,⟨#[97,44,98]⟩,⟨#[120,32,121]⟩,M,⟨#[97]⟩]:List LK),c.size<=300:=by
     intro c x;simp only[Lb,Lc,or_false] at x;rcases x with rfl | rfl | rfl | rfl | rfl | rfl <;> first | exact d2 | decide
    refine dx 6 8 (fun K b=>?_) (fun K b=>?_)
    ·rw[Lt (by rfl)];go_simp
     have H:K_ w6 (w6.alloc (.cells #[.string ⟨#[]⟩,.string ⟨#[45]⟩,.string ⟨#[97,44,98]⟩,.string ⟨#[120,32,121]⟩,.string M,.string ⟨#[97]⟩] 9)):=ag _ _;have f:=Kz (j.o.kept H);refine ae b (fun _=>f.o.st.box.c0) ?_;clear b K;clear d H;refine ak 8 (fun K b=>?_);go_simp
     go_at_call 21
     refine (aK _ y a E B (p+3) _ 6 rfl f.o.st.rd (by omega) (by omega) P).mono ?_;rintro e wE ⟨R,rfl,k7,k,i⟩;have O:=Kz (f.o.drawn k i);obtain⟨c,x,c5⟩:=qp [⟨#[]⟩,⟨#[45]⟩,⟨#[97,44,98]⟩,⟨#[120,32,121]⟩,M,⟨#[97]⟩] i j.o.st.rd.row.lt R (by show R<6;omega) k6;have lz:w6.heap.size<wE.heap.size:=Nat.lt_of_lt_of_le (by simp) i.size;clear k i;dsimp only;refine ae b (fun _=>O.o.st.box.c0) ?_;clear b K;have b9:(R:Int)<6:=by omega
     refine ah 9 (fun K b=>?_);go_simp
     refine ae b (fun _=>O.o.st.box.c0) ?_;clear b K;refine ah 10 (fun K b=>?_);go_simp
     refine ae b (fun _=>O.o.st.box.c0) ?_;clear b K;refine ah 11 (fun K b=>?_);go_simp
     have X:K_ wE (wE.alloc (.cells #[.string c] 9)):=ag _ _;have b0:=Kz (O.o.kept X);have a3:=Kz X;refine ae b (fun _=>b0.o.st.box.c0) ?_;clear b K;clear X;obtain⟨ic,a5,C,D,a6⟩:=aN Tryz.d_;refine ah 12 (fun K b=>?_);refine step_append_lies _ rfl (.tmp 65) (.tmp 75) 26 rfl N.heap.size 9 ic _ 1 16 underlying26 a5 C D a6 rfl (by decide) (.slice aa s.asks.length ca) s.asks.length (s.asks.map Value.string) (by simp[Act.eval]) b0.o.st.asks ⟨wE.heap.size,0,none⟩ 1 1 [.string c] (by simp[Act.eval]) rfl (iH wE c) (iq c) (by omega) (by unfold maxLen;omega) (by omega) b0.o.st.kb.size _ rfl ?_;intro g2 e9 w8 a7 V a0 b1;have I:=Kz (O.o.st.sw a3.o V);have h4:=Kz (O.o.oD (x:=c) a3.o a7 V (uK a0) (by omega) c5);have z6:=I.o.row.lt;have y6:=I.o.c0;obtain⟨_,f6⟩:=I.o.cell (o:=0) (by omega);clear a7 V a0 b1;refine ae b (fun _=>I.o.c0) ?_;clear b K;have d:=I.o.c0;refine af 13 d ?_;refine ah 14 (fun K b=>?_);go_simp
     refine ae b (fun h=>Lv rfl h) ?_;clear b K;refine aB ?_;go_wp2
     go_meet
     exact⟨cost,_,_,_,p+4,Q,by omega,by omega,h4.o⟩
    ·rw[Lt (by rfl)];go_simp
     go_at_call 21
     refine (aK _ y a E B (p+3) _ 6 rfl j.o.st.rd (by omega) (by omega) P).mono ?_;rintro e w7 ⟨R,rfl,k7,k,i⟩;have f:=Kz (j.o.drawn k i);clear k i;dsimp only;refine ae b (fun _=>f.o.st.box.c0) ?_;clear b K;clear d;refine ak 6 (fun K b=>?_);go_simp
     have H:K_ w7 (w7.alloc (.cells #[.string ⟨#[]⟩,.string ⟨#[45]⟩,.string ⟨#[97,44,98]⟩,.string ⟨#[120,32,121]⟩,.string M,.string ⟨#[97]⟩] 9)):=ag _ _;have O:=Kz (f.o.kept H);obtain⟨c,x,c5⟩:=uO w7 9 [⟨#[]⟩,⟨#[45]⟩,⟨#[97,44,98]⟩,⟨#[120,32,121]⟩,M,⟨#[97]⟩] R (by show R<6;omega) k6;clear H;have c1:(w7.alloc (.cells #[.string ⟨#[]⟩,.string ⟨#[45]⟩,.string ⟨#[97,44,98]⟩,.string ⟨#[120,32,121]⟩,.string M,.string ⟨#[97]⟩] 9)).cell? ⟨w7.heap.size,R,none⟩=some (.string c):=x;have lz:w7.heap.size<(w7.alloc (.cells #[.string ⟨#[]⟩,.string ⟨#[45]⟩,.string ⟨#[97,44,98]⟩,.string ⟨#[120,32,121]⟩,.string M,.string ⟨#[97]⟩] 9)).heap.size:=by simp
     clear x;refine ae b (fun _=>O.o.st.box.c0) ?_;clear b K;generalize c2:w7.alloc (.cells #[.string ⟨#[]⟩,.string ⟨#[45]⟩,.string ⟨#[97,44,98]⟩,.string ⟨#[120,32,121]⟩,.string M,.string ⟨#[97]⟩] 9)=wE at O c1 lz⊢;clear c2;have b9:(R:Int)<6:=by omega
     refine ah 9 (fun K b=>?_);go_simp
     refine ae b (fun _=>O.o.st.box.c0) ?_;clear b K;refine ah 10 (fun K b=>?_);go_simp
     refine ae b (fun _=>O.o.st.box.c0) ?_;clear b K;refine ah 11 (fun K b=>?_);go_simp
     have X:K_ wE (wE.alloc (.cells #[.string c] 9)):=ag _ _;have b0:=Kz (O.o.kept X);have a3:=Kz X;refine ae b (fun _=>b0.o.st.box.c0) ?_;clear b K;clear X;obtain⟨ic,a5,C,D,a6⟩:=aN Tryz.d_;refine ah 12 (fun K b=>?_);refine step_append_lies _ rfl (.tmp 65) (.tmp 75) 26 rfl N.heap.size 9 ic _ 1 16 underlying26 a5 C D a6 rfl (by decide) (.slice aa s.asks.length ca) s.asks.length (s.asks.map Value.string) (by simp[Act.eval]) b0.o.st.asks ⟨wE.heap.size,0,none⟩ 1 1 [.string c] (by simp[Act.eval]) rfl (iH wE c) (iq c) (by omega) (by unfold maxLen;omega) (by omega) b0.o.st.kb.size _ rfl ?_;intro g2 e9 w8 a7 V a0 b1;have I:=Kz (O.o.st.sw a3.o V);have h4:=Kz (O.o.oD (x:=c) a3.o a7 V (uK a0) (by omega) c5);have z6:=I.o.row.lt;have y6:=I.o.c0;obtain⟨_,f6⟩:=I.o.cell (o:=0) (by omega);clear a7 V a0 b1;refine ae b (fun _=>I.o.c0) ?_;clear b K;have d:=I.o.c0;refine af 13 d ?_;refine ah 14 (fun K b=>?_);go_simp
     refine ae b (fun h=>Lv rfl h) ?_;clear b K;refine aB ?_;go_wp2
     go_meet
     exact⟨cost,_,_,_,p+4,Q,by omega,by omega,h4.o⟩
   ·have r:=Kz (n.o.kept (aL W));have T:=r.o.st.box.c0;have p8:s.asks.length<=900:=by omega
    go_upto_region 19 with fail
    refine Qx.region (by kernel_rfl) (fun w'=>w'.cell? ⟨Y.heap.size,0,none⟩=some (.slice aa s.asks.length ca)) 9 T (fun d=>?_);generalize a4:W.drew=Z at r d⊢;clear a4 T;refine af 0 d ?_;refine af 1 d ?_;refine af 2 d ?_;refine af 4 d ?_;refine dx 3 5 (fun K b=>?_) (fun K b=>?_)
    ·rw[Lt (by rfl)];go_simp
     have H:K_ Z (Z.alloc (.cells #[.int .i64 (-1),.int .i64 (s.asks.length:Int),.int .i64 0,.int .i64 1] 3)):=ag _ _;have j:=Kz (r.o.kept H);refine ae b (fun _=>j.o.st.box.c0) ?_;clear b K;clear d H;refine ak 5 (fun K b=>?_);go_simp
     go_at_call 21
     refine (aK _ y a E B (p+2) _ 4 rfl j.o.st.rd (by omega) (by omega) P).mono ?_;rintro e l ⟨q,rfl,hq,k,i⟩;have f:=Kz (j.o.drawn k i);obtain⟨c,x,C,D⟩:=tZ [-1,(s.asks.length:Int),0,1] i r.o.st.rd.row.lt q (by show q<4;omega) (fun c x=>by simp at x;omega);have lz:Z.heap.size<l.heap.size:=Nat.lt_of_lt_of_le (by simp) i.size;clear k i;dsimp only;refine ae b (fun _=>f.o.st.box.c0) ?_;clear b K;have b9:(q:Int)<4:=by omega
     refine ah 6 (fun K b=>?_);go_simp
     refine ae b (fun _=>f.o.st.box.c0) ?_;clear b K;refine ah 7 (fun K b=>?_);go_simp
     refine ae b (fun _=>f.o.st.box.c0) ?_;clear b K;have d:=f.o.st.box.c0;refine af 8 d ?_;obtain⟨_,d3⟩:=f.o.st.box.cell (o:=1) (by omega);obtain⟨⟨_,r1⟩,_⟩:=f.o.st.box.cell (o:=1) (by omega);have rz:=f.o.st.box.row.lt;refine ah 9 (fun K b=>?_);go_simp
     refine ae b (fun h=>Lv rfl h) ?_;clear b K;refine aB ?_;go_wp2
     go_meet
     exact⟨cost,_,_,_,p+3,Q,by omega,by omega,f.o.on c ⟨C,D⟩⟩
    ·rw[Lt (by rfl)];go_simp
     go_at_call 21
     refine (aK _ y a E B (p+2) _ 4 rfl r.o.st.rd (by omega) (by omega) P).mono ?_;rintro e l ⟨q,rfl,hq,k,i⟩;have j:=Kz (r.o.drawn k i);clear k i;dsimp only;refine ae b (fun _=>j.o.st.box.c0) ?_;clear b K;clear d;refine ak 3 (fun K b=>?_);go_simp
     have H:K_ l (l.alloc (.cells #[.int .i64 (-1),.int .i64 (s.asks.length:Int),.int .i64 0,.int .i64 1] 3)):=ag _ _;have f:=Kz (j.o.kept H);obtain⟨c,x,C,D⟩:=vC l 3 [-1,(s.asks.length:Int),0,1] q (by show q<4;omega) (fun c x=>by simp at x;omega);clear H;have c1:(l.alloc (.cells #[.int .i64 (-1),.int .i64 (s.asks.length:Int),.int .i64 0,.int .i64 1] 3)).cell? ⟨l.heap.size,q,none⟩=some (.int .i64 c):=x;have lz:l.heap.size<(l.alloc (.cells #[.int .i64 (-1),.int .i64 (s.asks.length:Int),.int .i64 0,.int .i64 1] 3)).heap.size:=by simp
     clear x;refine ae b (fun _=>f.o.st.box.c0) ?_;clear b K;generalize c2:l.alloc (.cells #[.int .i64 (-1),.int .i64 (s.asks.length:Int),.int .i64 0,.int .i64 1] 3)=wE at f c1 lz⊢;clear c2;have b9:(q:Int)<4:=by omega
     refine ah 6 (fun K b=>?_);go_simp
     refine ae b (fun _=>f.o.st.box.c0) ?_;clear b K;refine ah 7 (fun K b=>?_);go_simp
     refine ae b (fun _=>f.o.st.box.c0) ?_;clear b K;have d:=f.o.st.box.c0;refine af 8 d ?_;obtain⟨_,d3⟩:=f.o.st.box.cell (o:=1) (by omega);obtain⟨⟨_,r1⟩,_⟩:=f.o.st.box.cell (o:=1) (by omega);have rz:=f.o.st.box.row.lt;refine ah 9 (fun K b=>?_);go_simp
     refine ae b (fun h=>Lv rfl h) ?_;clear b K;refine aB ?_;go_wp2
     go_meet
     exact⟨cost,_,_,_,p+3,Q,by omega,by omega,f.o.on c ⟨C,D⟩⟩
   ·have r:=Kz (n.o.kept (aL W));have T:=r.o.c1;have m7:IntKind.i64.wrap ((L.length:Int)-1)= (L.length:Int)-1:=by simp[IntKind.wrap,IntKind.bits,IntKind.signed];omega
    go_upto_region 21 with fail
    refine Qx.region (by kernel_rfl) (fun w'=>w'.cell? ⟨w1.heap.size,1,none⟩=some (.slice (some ⟨g,0,none⟩) L.length F)) 13 T (fun d=>?_);generalize a4:W.drew=Z at r d⊢;clear a4 T;refine au 0 d ?_;refine af 4 d ?_;refine af 5 d ?_;refine bJ 6 (.int .i64 ((L.length:Int)-1)) d ?_ ?_
    ·intro u A;try dsimp only at A
     go_simp
     try with_reducible rfl
    try simp only[upP]
    refine af 8 d ?_;refine dx 7 9 (fun K b=>?_) (fun K b=>?_)
    ·rw[Lt (by rfl)];go_simp
     have H:K_ Z (Z.alloc (.cells #[.int .i64 (-1),.int .i64 (L.length:Int),.int .i64 ((L.length:Int)-1)] 3)):=ag _ _;have j:=Kz (r.o.kept H);refine ae b (fun _=>j.o.c1) ?_;clear b K;clear d H;refine ak 9 (fun K b=>?_);go_simp
     go_at_call 21
     refine (aK _ y a E B (p+2) _ 3 rfl j.o.st.rd (by omega) (by omega) P).mono ?_;rintro e l ⟨q,rfl,hq,k,i⟩;have f:=Kz (j.o.drawn k i);obtain⟨c,x,C,D⟩:=tZ [-1,(L.length:Int),(L.length:Int)-1] i r.o.st.rd.row.lt q (by show q<3;omega) (fun c x=>by simp at x;omega);have lz:Z.heap.size<l.heap.size:=Nat.lt_of_lt_of_le (by simp) i.size;clear k i;dsimp only;refine ae b (fun _=>f.o.c1) ?_;clear b K;have b9:(q:Int)<3:=by omega
     refine ah 10 (fun K b=>?_);go_simp
     refine ae b (fun _=>f.o.c1) ?_;clear b K;refine ah 11 (fun K b=>?_);go_simp
     refine ae b (fun _=>f.o.c1) ?_;clear b K;have d:=f.o.c1;refine af 12 d ?_;obtain⟨_,d3⟩:=f.o.st.box.cell (o:=3) (by omega);obtain⟨⟨_,r1⟩,_⟩:=f.o.st.box.cell (o:=3) (by omega);have rz:=f.o.st.box.row.lt;refine ah 13 (fun K b=>?_);go_simp
     refine ae b (fun h=>Lv rfl h) ?_;clear b K;refine aB ?_;go_wp2
     go_meet
     exact⟨cost,_,_,_,p+3,Q,by omega,by omega,f.o.els c (mH ⟨C,D⟩)⟩
    ·rw[Lt (by rfl)];go_simp
     go_at_call 21
     refine (aK _ y a E B (p+2) _ 3 rfl r.o.st.rd (by omega) (by omega) P).mono ?_;rintro e l ⟨q,rfl,hq,k,i⟩;have j:=Kz (r.o.drawn k i);clear k i;dsimp only;refine ae b (fun _=>j.o.c1) ?_;clear b K;clear d;refine ak 7 (fun K b=>?_);go_simp
     have H:K_ l (l.alloc (.cells #[.int .i64 (-1),.int .i64 (L.length:Int),.int .i64 ((L.length:Int)-1)] 3)):=ag _ _;have f:=Kz (j.o.kept H);obtain⟨c,x,C,D⟩:=vC l 3 [-1,(L.length:Int),(L.length:Int)-1] q (by show q<3;omega) (fun c x=>by simp at x;omega);clear H;have c1:(l.alloc (.cells #[.int .i64 (-1),.int .i64 (L.length:Int),.int .i64 ((L.length:Int)-1)] 3)).cell? ⟨l.heap.size,q,none⟩=some (.int .i64 c):=x;have lz:l.heap.size<(l.alloc (.cells #[.int .i64 (-1),.int .i64 (L.length:Int),.int .i64 ((L.length:Int)-1)] 3)).heap.size:=by simp
     clear x;refine ae b (fun _=>f.o.c1) ?_;clear b K;generalize c2:l.alloc (.cells #[.int .i64 (-1),.int .i64 (L.length:Int),.int .i64 ((L.length:Int)-1)] 3)=wE at f c1 lz⊢;clear c2;have b9:(q:Int)<3:=by omega
     refine ah 10 (fun K b=>?_);go_simp
     refine ae b (fun _=>f.o.c1) ?_;clear b K;refine ah 11 (fun K b=>?_);go_simp
     refine ae b (fun _=>f.o.c1) ?_;clear b K;have d:=f.o.c1;refine af 12 d ?_;obtain⟨_,d3⟩:=f.o.st.box.cell (o:=3) (by omega);obtain⟨⟨_,r1⟩,_⟩:=f.o.st.box.cell (o:=3) (by omega);have rz:=f.o.st.box.row.lt;refine ah 13 (fun K b=>?_);go_simp
     refine ae b (fun h=>Lv rfl h) ?_;clear b K;refine aB ?_;go_wp2
     go_meet
     exact⟨cost,_,_,_,p+3,Q,by omega,by omega,f.o.els c (mH ⟨C,D⟩)⟩
   ·have r:=Kz (n.o.kept (aL W));have T:=r.o.c1;have m7:IntKind.i64.wrap ((L.length:Int)-1)= (L.length:Int)-1:=by simp[IntKind.wrap,IntKind.bits,IntKind.signed];omega
    go_upto_region 23 with fail
    refine Qx.region (by kernel_rfl) (fun w'=>w'.cell? ⟨w1.heap.size,1,none⟩=some (.slice (some ⟨g,0,none⟩) L.length F)) 13 T (fun d=>?_);generalize a4:W.drew=Z at r d⊢;clear a4 T;refine au 0 d ?_;refine af 4 d ?_;refine af 5 d ?_;refine bJ 6 (.int .i64 ((L.length:Int)-1)) d ?_ ?_
    ·intro u A;try dsimp only at A
     go_simp
     try with_reducible rfl
    try simp only[upP]
    refine af 8 d ?_;refine dx 7 9 (fun K b=>?_) (fun K b=>?_)
    ·rw[Lt (by rfl)];go_simp
     have H:K_ Z (Z.alloc (.cells #[.int .i64 (-2),.int .i64 (-1),.int .i64 (L.length:Int),.int .i64 ((L.length:Int)-1)] 3)):=ag _ _;have j:=Kz (r.o.kept H);refine ae b (fun _=>j.o.c1) ?_;clear b K;clear d H;refine ak 9 (fun K b=>?_);go_simp
     go_at_call 21
     refine (aK _ y a E B (p+2) _ 4 rfl j.o.st.rd (by omega) (by omega) P).mono ?_;rintro e l ⟨q,rfl,hq,k,i⟩;have f:=Kz (j.o.drawn k i);obtain⟨c,x,C,D⟩:=tZ [-2, -1,(L.length:Int),(L.length:Int)-1] i r.o.st.rd.row.lt q (by show q<4;omega) (fun c x=>by simp at x;omega);have lz:Z.heap.size<l.heap.size:=Nat.lt_of_lt_of_le (by simp) i.size;clear k i;dsimp only;refine ae b (fun _=>f.o.c1) ?_;clear b K;have b9:(q:Int)<4:=by omega
     refine ah 10 (fun K b=>?_);go_simp
     refine ae b (fun _=>f.o.c1) ?_;clear b K;refine ah 11 (fun K b=>?_);go_simp
     refine ae b (fun _=>f.o.c1) ?_;clear b K;have d:=f.o.c1;refine af 12 d ?_;obtain⟨_,d3⟩:=f.o.st.box.cell (o:=4) (by omega);obtain⟨⟨_,r1⟩,_⟩:=f.o.st.box.cell (o:=4) (by omega);have rz:=f.o.st.box.row.lt;refine ah 13 (fun K b=>?_);go_simp
     refine ae b (fun h=>Lv rfl h) ?_;clear b K;refine aB ?_;go_wp2
     go_meet
     exact⟨cost,_,_,_,p+3,Q,by omega,by omega,f.o.fall c ⟨C,D⟩⟩
    ·rw[Lt (by rfl)];go_simp
     go_at_call 21
     refine (aK _ y a E B (p+2) _ 4 rfl r.o.st.rd (by omega) (by omega) P).mono ?_;rintro e l ⟨q,rfl,hq,k,i⟩;have j:=Kz (r.o.drawn k i);clear k i;dsimp only;refine ae b (fun _=>j.o.c1) ?_;clear b K;clear d;refine ak 7 (fun K b=>?_);go_simp
     have H:K_ l (l.alloc (.cells #[.int .i64 (-2),.int .i64 (-1),.int .i64 (L.length:Int),.int .i64 ((L.length:Int)-1)] 3)):=ag _ _;have f:=Kz (j.o.kept H);obtain⟨c,x,C,D⟩:=vC l 3 [-2, -1,(L.length:Int),(L.length:Int)-1] q (by show q<4;omega) (fun c x=>by simp at x;omega);clear H;have c1:(l.alloc (.cells #[.int .i64 (-2),.int .i64 (-1),.int .i64 (L.length:Int),.int .i64 ((L.length:Int)-1)] 3)).cell? ⟨l.heap.size,q,none⟩=some (.int .i64 c):=x;have lz:l.heap.size<(l.alloc (.cells #[.int .i64 (-2),.int .i64 (-1),.int .i64 (L.length:Int),.int .i64 ((L.length:Int)-1)] 3)).heap.size:=by simp
     clear x;refine ae b (fun _=>f.o.c1) ?_;clear b K;generalize c2:l.alloc (.cells #[.int .i64 (-2),.int .i64 (-1),.int .i64 (L.length:Int),.int .i64 ((L.length:Int)-1)] 3)=wE at f c1 lz⊢;clear c2;have b9:(q:Int)<4:=by omega
     refine ah 10 (fun K b=>?_);go_simp
     refine ae b (fun _=>f.o.c1) ?_;clear b K;refine ah 11 (fun K b=>?_);go_simp
     refine ae b (fun _=>f.o.c1) ?_;clear b K;have d:=f.o.c1;refine af 12 d ?_;obtain⟨_,d3⟩:=f.o.st.box.cell (o:=4) (by omega);obtain⟨⟨_,r1⟩,_⟩:=f.o.st.box.cell (o:=4) (by omega);have rz:=f.o.st.box.row.lt;refine ah 13 (fun K b=>?_);go_simp
     refine ae b (fun h=>Lv rfl h) ?_;clear b K;refine aB ?_;go_wp2
     go_meet
     exact⟨cost,_,_,_,p+3,Q,by omega,by omega,f.o.fall c ⟨C,D⟩⟩
   ·have r:=Kz (n.o.kept (aL W));have T:=r.o.st.box.c2;have y1:=r.o.c1;have p9:IntKind.i64.wrap ((L.length:Int)+2)= (L.length:Int)+2:=by simp[IntKind.wrap,IntKind.bits,IntKind.signed];omega
    go_upto_region 25 with fail
    refine Qx.region (by kernel_rfl) (fun w'=>w'.cell? ⟨Y.heap.size,2,none⟩=some (.slice ac s.cases.length cc)/\w'.cell? ⟨w1.heap.size,1,none⟩=some (.slice (some ⟨g,0,none⟩) L.length F)) 17 ⟨T,y1⟩ (fun d=>?_);generalize a4:W.drew=Z at r d⊢;clear a4 T y1;refine af 0 d ?_;refine af 1 d ?_;refine af 2 d ?_;refine au 6 d ?_;refine bJ 10 (.int .i64 ((L.length:Int)+2)) d ?_ ?_
    ·intro u A;try dsimp only at A
     go_simp
     try with_reducible rfl
    try simp only[upP]
    refine ak 3 (fun K b=>?_);go_simp
    go_at_call 21
    refine (aK _ y a E B (p+2) _ 2 rfl r.o.st.rd (by omega) (by omega) P).mono ?_;rintro e l ⟨q,rfl,hq,k,i⟩;have j:=Kz (r.o.drawn k i);clear k i;dsimp only;refine ae b (fun _=>⟨j.o.st.box.c2,j.o.c1⟩) ?_;clear b K;clear d r;have d:=(show _/\_ from ⟨j.o.st.box.c2,j.o.c1⟩);have m6:IntKind.i64.wrap (200+ (q:Int))=200+ (q:Int):=by simp[IntKind.wrap,IntKind.bits,IntKind.signed];omega
    refine bJ 4 (.int .i64 (200+ (q:Int))) d ?_ ?_
    ·intro u A;try dsimp only at A
     go_simp
     try with_reducible rfl
    try simp only[upP]
    refine ak 5 (fun K b=>?_);go_simp
    go_at_call 96
    refine (tX _ ⟨#[116]⟩ _ (200+q) (by push_cast;rfl) (by omega) (by decide)).mono ?_;rintro e w6 ⟨⟨M,rfl,t⟩,h3⟩;have d2:M.size<=300:=by have e1:(⟨#[116]⟩:LK).size=1:=rfl;rw[e1] at t;omega
    subst h3;dsimp only;refine ae b (fun _=>⟨j.o.st.box.c2,j.o.c1⟩) ?_;clear b K;refine ak 11 (fun K b=>?_);go_simp
    go_at_call 21
    refine (aK _ y a E B (p+3) _ (L.length+2) (by push_cast;rfl) j.o.st.rd (by omega) (by omega) P).mono ?_;rintro e w7 ⟨R,rfl,k7,k8,k9⟩;have f:=Kz (j.o.drawn k8 k9);clear k8 k9;dsimp only;refine ae b (fun _=>⟨f.o.st.box.c2,f.o.c1⟩) ?_;clear b K;clear d;have d:=(show _/\_ from ⟨f.o.st.box.c2,f.o.c1⟩);have q0:IntKind.i64.wrap ((R:Int)-1)= (R:Int)-1:=by simp[IntKind.wrap,IntKind.bits,IntKind.signed];omega
    refine bJ 12 (.int .i64 ((R:Int)-1)) d ?_ ?_
    ·intro u A;try dsimp only at A
     go_simp
     try with_reducible rfl
    try simp only[upP]
    refine af 13 d ?_;refine ah 14 (fun K b=>?_);go_simp
    have X:K_ w7 (w7.alloc (.cells #[.string M,.int .i64 ((R:Int)-1)] 177)):=ag _ _;have O:=Kz (f.o.kept X);have a3:=Kz X;refine ae b (fun _=>⟨O.o.st.box.c2,O.o.c1⟩) ?_;clear b K;clear d X;obtain⟨ic,a5,C,D,a6⟩:=aN Tryz.oQ;refine ah 15 (fun K b=>?_);refine step_append_lies _ rfl (.tmp 122) (.tmp 135) 81 rfl N.heap.size 177 ic _ 2 24 underlying81 a5 C D a6 rfl (by decide) (.slice ac s.cases.length cc) s.cases.length (aY s.cases) (by simp[Act.eval]) O.o.st.cases ⟨w7.heap.size,0,none⟩ 1 1 [.string M,.int .i64 ((R:Int)-1)] (by simp[Act.eval]) rfl (fun a1 u A=>by rw[KZ];exact Xz w7 #[.string M,.int .i64 ((R:Int)-1)] 177 a1 u (by simpa using A)) (fun u A=>by simp at A;rcases A with rfl | rfl <;> rfl) (by omega) (by unfold maxLen;omega) (by omega) O.o.st.kb.size _ rfl ?_;intro g2 e9 w8 a7 V a0 b1;have I:=Kz (f.o.st.zJ a3.o V);have b0:=Kz (f.o.qU (x:=⟨M,(R:Int)-1⟩) a3.o a7 V (uK a0) (by omega) ⟨d2,by show -1000<=(R:Int)-1;omega,by show (R:Int)-1<=1000;omega⟩);have b3:=Kz (f.o.Iy a3.o V);have z6:=I.o.row.lt;have y6:=I.o.c2;obtain⟨_,f6⟩:=I.o.cell (o:=2) (by omega);clear a7 V a0 b1;refine ae b (fun _=>⟨I.o.c2,b3.o⟩) ?_;clear b K;have d:=(show _/\_ from ⟨I.o.c2,b3.o⟩);refine af 16 d ?_;refine ah 17 (fun K b=>?_);go_simp
    refine ae b (fun h=>Lv rfl h) ?_;clear b K;refine aB ?_;go_wp2
    go_meet
    exact⟨cost,_,_,_,p+4,Q,by omega,by omega,b0.o⟩
   ·go_wp2_with fail
    refine (aK _ y a E B (p+2) _ 2 rfl n.o.st.rd (by omega) (by omega) P).mono ?_;rintro e l ⟨q,rfl,hq,k,i⟩;have j:=Kz (n.o.drawn k i);clear k i e8 y5 y6 y3 f5 f6 f3 f7;go_wp2
    go_loopg [] (5+q-s.cases.length) (fun gg wr=>∃(vc:LQ) (v:Xj),gg=5+q-v.cases.length/\dS (mN+10) N wr y w1.heap.size Y.heap.size a E B (p+3) cost (.slice (some ⟨g,0,none⟩) L.length F) L xs U (.slice aa s.asks.length ca) vc v)
    case atStart=>exact⟨_,s,rfl,j.o⟩
    case round=>
     clear j;obtain⟨vc,v,l0,hS⟩:=hrel;have J:=Kz hS;clear hS;obtain⟨h5,h6,rfl⟩:=ax J.o.st.cases;have y2:=J.o.st.box.c2;have yz:=J.o.st.box.row.lt;by_cases l1:(v.cases.length:Int)<5+ (q:Int)
     ·have k1:K_ wr (wr.alloc (.cells #[.string ⟨#[118,48,40,41]⟩,.int .i64 0] 177)):=ag _ _;have a2:=Kz k1;have b2:=Kz (J.o.kept k1).st.cases;have h7:N.heap.size<=(wr.alloc (.cells #[.string ⟨#[118,48,40,41]⟩,.int .i64 0] 177)).heap.size:=(J.o.kept k1).st.kb.size;have h8:Hid (∀a1 u,([.string ⟨#[118,48,40,41]⟩,.int .i64 0]:List LQ)[a1]? =some u->(wr.alloc (.cells #[.string ⟨#[118,48,40,41]⟩,.int .i64 0] 177)).cell? ((⟨wr.heap.size,0,none⟩:Addr).add a1)=some u):=fun a1 u A=>by rw[KZ];exact Xz wr #[.string ⟨#[118,48,40,41]⟩,.int .i64 0] 177 a1 u A
      have d4:Hid (∀u∈([.string ⟨#[118,48,40,41]⟩,.int .i64 0]:List LQ),u.oneCell'=true):=fun u A=>by simp at A;rcases A with rfl | rfl <;> rfl
      obtain⟨ic,a5,C,D,a6⟩:=aN Tryz.oQ;clear k1;go_wp2_with (at_builtin;refine wpList_append_lies _ rfl (.tmp 149) (.tmp 151) 81 rfl N.heap.size 177 ic _ 2 24 underlying81 a5 C D a6 rfl (by decide) (.slice h5 v.cases.length h6) v.cases.length (aY v.cases) rfl b2.o ⟨wr.heap.size,0,none⟩ 1 1 [.string ⟨#[118,48,40,41]⟩,.int .i64 0] rfl rfl h8.o d4.o (by omega) (by unfold maxLen;omega) (by omega) h7 _ rfl ?_;intro g2 e9 w2 c6 a8 a0 b1;have b4:=J.o.st.zJ a2.o a8;have y4:=b4.c2;have z2:=b4.row.lt;obtain⟨_,f2⟩:=b4.cell (o:=2) (by omega);have h9:=Kz c6;have i0:=Kz a8;have f0:=Kz a0;clear c6 a8 b4 a0 b1)
      go_roundg (gk-1)
      case measure=>omega
      case rel=>exact⟨_,{v with cases:=v.cases++ [⟨⟨#[118,48,40,41]⟩,0⟩]},by show gk-1=5+q-(v.cases++ [_]).length;rw[KS];show gk-1=5+q-(v.cases.length+1);omega,J.o.qU (x:=⟨⟨#[118,48,40,41]⟩,0⟩) a2.o h9.o i0.o (uK f0.o) (by omega) ⟨by decide,by decide,by decide⟩⟩
     ·go_wp2
      go_meet
      exact⟨cost,_,_,v,p+3,Q,by omega,by omega,J.o⟩
   ·go_wp2_with fail
    refine (aK _ y a E B (p+2) _ 2 rfl n.o.st.rd (by omega) (by omega) P).mono ?_;rintro e l ⟨q,rfl,hq,k,i⟩;have j:=Kz (n.o.drawn k i);clear k i e8 y5 y6 y3 f5 f6 f3 f7;go_wp2
    go_loopg [10] (5+q-s.asks.length) (fun gg M wr=>∃(b5:Nat) (va:LQ) (v:Xj),M= .int .i64 (b5:Int)/\gg=5+q-v.asks.length/\b5+s.asks.length=v.asks.length/\dS (mN+10) N wr y w1.heap.size Y.heap.size a E B (p+3) cost (.slice (some ⟨g,0,none⟩) L.length F) L xs U va (.slice ac s.cases.length cc) v)
    case atStart=>exact⟨0,_,s,rfl,rfl,by omega,j.o⟩
    case round=>
     clear j;obtain⟨b5,va,v,rfl,l0,hi,hS⟩:=hrel;have⟨J,HI⟩:=aH hS hi;clear hS hi;obtain⟨f1,f4,rfl⟩:=ax J.o.st.asks;have y2:=J.o.st.box.c0;have yz:=J.o.st.box.row.lt;by_cases l1:(v.asks.length:Int)<5+ (q:Int)
     ·have m8:b5<10:=by have:=HI.o;omega
      have f8:=Kz (J.o.kept (aL wr));have T:=f8.o.st.box.c0;go_upto_region 35 with fail
      refine Qx.region (by kernel_rfl) (fun w'=>w'.cell? ⟨Y.heap.size,0,none⟩=some (.slice f1 v.asks.length f4)) 8 T (fun d=>?_);generalize a4:wr.drew=Z at f8 d⊢;clear a4 T;refine af 0 d ?_;refine af 1 d ?_;refine af 2 d ?_;refine ak 3 (fun K b=>?_);go_simp
      go_at_call 127
      refine (rQ _ b5 m8).mono ?_;rintro e f9 ⟨i1,rfl,ht,l2⟩;have d5:=Kz (f8.o.kept l2);clear l2;dsimp only;refine ae b (fun _=>d5.o.st.box.c0) ?_;clear b K;clear d f8;have d:=d5.o.st.box.c0;obtain⟨tx,l3⟩:∃tx:LK,(⟨#[109,97,110,121]⟩:LK)++i1=tx:=⟨_,rfl⟩;have m9:tx.size<=300:=by rw[<-l3,ByteArray.size_append];show 4+i1.size<=300;omega
      have f5:¬9223372036854775807<4+i1.size:=by omega
      refine bJ 4 (.string tx) d ?_ ?_
      ·intro u A;try dsimp only at A
       go_simp
       try with_reducible rfl
      try simp only[upP]
      clear l3 f5 ht;refine ah 5 (fun K b=>?_);go_simp
      have X:K_ f9 (f9.alloc (.cells #[.string tx] 9)):=ag _ _;have i2:=Kz (d5.o.kept X);have a3:=Kz X;refine ae b (fun _=>i2.o.st.box.c0) ?_;clear b K;clear X d;obtain⟨ic,a5,C,D,a6⟩:=aN Tryz.d_;refine ah 6 (fun K b=>?_);refine step_append_lies _ rfl (.tmp 167) (.tmp 171) 26 rfl N.heap.size 9 ic _ 1 16 underlying26 a5 C D a6 rfl (by decide) (.slice f1 v.asks.length f4) v.asks.length (v.asks.map Value.string) (by simp[Act.eval]) i2.o.st.asks ⟨f9.heap.size,0,none⟩ 1 1 [.string tx] (by simp[Act.eval]) rfl (iH f9 tx) (iq tx) (by omega) (by unfold maxLen;omega) (by omega) i2.o.st.kb.size _ rfl ?_;intro g2 e9 w8 a7 V a0 b1;have I:=Kz (d5.o.st.sw a3.o V);have n0:=Kz (d5.o.oD (x:=tx) a3.o a7 V (uK a0) (by omega) m9);have z6:=I.o.row.lt;have y6:=I.o.c0;obtain⟨_,f6⟩:=I.o.cell (o:=0) (by omega);clear a7 V a0 b1;refine ae b (fun _=>I.o.c0) ?_;clear b K;have d:=I.o.c0;refine af 7 d ?_;refine ah 8 (fun K b=>?_);go_simp
      refine ae b (fun h=>Lv rfl h) ?_;clear b K;refine aB ?_;go_wp2
      go_roundg (gk-1)
      case measure=>omega
      case rel=>exact⟨b5+1,_,{v with asks:=v.asks++ [tx]},by go_num,by show gk-1=5+q-(v.asks++ [_]).length;rw[KS];show gk-1=5+q-(v.asks.length+1);omega,by show b5+1+s.asks.length= (v.asks++ [_]).length;rw[KS];have:=HI.o;show b5+1+s.asks.length=v.asks.length+1;omega,n0.o⟩
     ·go_wp2
      go_meet
      exact⟨cost,_,_,v,p+3,Q,by omega,by omega,J.o⟩
   ·have i3:=Kz (n.o.act k5.o);go_wp2_with fail
    refine (aK _ y a E B (p+2) _ 2 rfl i3.o.rd (by omega) (by omega) P).mono ?_;rintro e l ⟨q,rfl,hq,k,i⟩;have f0:=Kz (i3.o.drawn k i);clear k i e8 y5 y6 y3 f5 f6 f3 f7 i3;go_wp2
    go_loopg [] (20+q-L.length) (fun gg wr=>∃(v':LQ) (L':List Xj) (i4:List LQ),gg=20+q-L'.length/\L'.length<=21/\ji (mN+10) N wr y w1.heap.size a E B (p+3) cost v' L' i4)
    case atStart=>exact⟨_,L,xs,rfl,hL,f0.o⟩
    case round=>
     clear f0;obtain⟨v',L',i4,l0,n1,hS⟩:=hrel;have J:=Kz hS;clear hS;obtain⟨av,d0,rfl⟩:=ax J.o.own;have y1:=J.o.c1;have yz:=J.o.row.lt;by_cases l1:(L'.length:Int)<20+ (q:Int)
     ·have k1:K_ wr (wr.alloc (.cells #[.slice none 0 0,.int .i64 0,.slice none 0 0,.int .i64 0,.int .i64 0,.bool true,.bool false,.string ⟨#[]⟩] 83)):=ag _ _;have a2:=Kz k1;have b2:=Kz (J.o.kept k1).own;have h7:N.heap.size<=(wr.alloc (.cells #[.slice none 0 0,.int .i64 0,.slice none 0 0,.int .i64 0,.int .i64 0,.bool true,.bool false,.string ⟨#[]⟩] 83)).heap.size:=(J.o.kept k1).kb.size;have h8:Hid (∀a1 u,([.slice none 0 0,.int .i64 0,.slice none 0 0,.int .i64 0,.int .i64 0,.bool true,.bool false,.string ⟨#[]⟩]:List LQ)[a1]? =some u->(wr.alloc (.cells #[.slice none 0 0,.int .i64 0,.slice none 0 0,.int .i64 0,.int .i64 0,.bool true,.bool false,.string ⟨#[]⟩] 83)).cell? ((⟨wr.heap.size,0,none⟩:Addr).add a1)=some u):=fun a1 u A=>by rw[KZ];exact Xz wr #[.slice none 0 0,.int .i64 0,.slice none 0 0,.int .i64 0,.int .i64 0,.bool true,.bool false,.string ⟨#[]⟩] 83 a1 u A
      have d4:Hid (∀u∈([.slice none 0 0,.int .i64 0,.slice none 0 0,.int .i64 0,.int .i64 0,.bool true,.bool false,.string ⟨#[]⟩]:List LQ),u.oneCell'=true):=iL ⟨[],0,[],0,0,true,false,⟨#[]⟩⟩ none 0 none 0;obtain⟨ic,a5,C,D,a6⟩:=aN Tryz.jJ;clear k1;go_wp2_with (at_builtin;refine wpList_append_own _ rfl (.tmp 185) (.tmp 187) 75 rfl N.heap.size 83 ic _ 8 96 underlying75 a5 C D a6 rfl (by decide) (.slice av L'.length d0) L'.length i4 rfl b2.o ⟨wr.heap.size,0,none⟩ 1 1 [.slice none 0 0,.int .i64 0,.slice none 0 0,.int .i64 0,.int .i64 0,.bool true,.bool false,.string ⟨#[]⟩] rfl rfl h8.o d4.o (by unfold maxLen;omega) (by omega) h7 ?_;intro q1 w2 c6 a8 _;have b4:=J.o.fe a2.o a8;have z2:=b4.2.lt;obtain⟨⟨_,y2⟩,f2⟩:=b4.2.row.at (i:=1) (by omega);have h9:=Kz c6;obtain⟨q2,q3,rfl⟩:=ax c6;have i0:=Kz a8;clear c6 a8 b4)
      go_roundg (gk-1)
      case measure=>omega
      case rel=>exact⟨_,L'++ [⟨[],0,[],0,0,true,false,⟨#[]⟩⟩],_,by rw[KS];show gk-1=20+q-(L'.length+1);omega,by rw[KS];show L'.length+1<=21;omega,J.o.push (s:=⟨[],0,[],0,0,true,false,⟨#[]⟩⟩) (cs:=[.slice none 0 0,.int .i64 0,.slice none 0 0,.int .i64 0,.int .i64 0,.bool true,.bool false,.string ⟨#[]⟩]) a2.o ⟨none,0,none,0,rfl,.inl rfl,.inl rfl,JP _⟩ ⟨by simp,fun M t=>by simp at t,⟨by show (-1000:Int)<=0;omega,by show (0:Int)<=1000;omega⟩,by simp,fun M t=>by simp at t,mH ⟨by show (-1000:Int)<=0;omega,by show (0:Int)<=1000;omega⟩,⟨by show (-1000:Int)<=0;omega,by show (0:Int)<=1000;omega⟩,by decide⟩ (jH (s:=⟨[],0,[],0,0,true,false,⟨#[]⟩⟩) (fun _=>⟨rfl,rfl⟩) (fun _=>⟨rfl,rfl⟩)) h9.o i0.o⟩
     ·have S:=Kz J.o.fin;have G:=Kz (d6.o.but S.o.kb (by omega));have o0:=S.o.c0;obtain⟨⟨_,x0⟩,g5⟩:=G.o.row.at (i:=0) (by omega);obtain⟨⟨_,x1⟩,g1⟩:=G.o.row.at (i:=1) (by omega);have xz:=G.o.lt;go_wp2_with fail
      have hR:=JU wr (w.heap.size+1) 0 [.int .i64 cost,.slice av L'.length d0] (G.o.row.there (o:=0) (m:=2) (JP _));exact X_ [.int .i64 cost,.slice av L'.length d0] _ results97 rfl hR underlying77 rfl Tryz.g_ rfl (S.o.ends G.o (by omega) k0 d7.o rfl (by omega) (by omega) n1 Q)
   ·have o1:=n.o.c1;have oz:=n.o.row.lt;obtain⟨_,fo⟩:=n.o.row.row.at (i:=1) (by omega);have S:=Kz n.o.cut;have G:=Kz (d6.o.but S.o.kb (by omega));have o0:=S.o.c0;have n2:=S.o.c1;have n3:=S.o.row.lt;obtain⟨⟨_,x0⟩,g5⟩:=G.o.row.at (i:=0) (by omega);obtain⟨⟨_,x1⟩,g1⟩:=G.o.row.at (i:=1) (by omega);have xz:=G.o.lt;have q4:(U:Int)<=(F:Int):=by omega
    go_wp2_with fail
    have hR:=JU (W.setCell ⟨w1.heap.size,1,none⟩ (.slice (some ⟨g,0,none⟩) U F)) (w.heap.size+1) 0 [.int .i64 cost,.slice (some ⟨g,0,none⟩) U F] (G.o.row.there (o:=0) (m:=2) (JP _));exact X_ [.int .i64 cost,.slice (some ⟨g,0,none⟩) U F] _ results97 rfl hR underlying77 rfl Tryz.g_ rfl (S.o.ends G.o (by omega) k0 d7.o rfl (by omega) (by omega) (by rw[Kt];omega) Q)
   ·go_wp2
    go_meet
    exact⟨cost,_,_,_,p+2,Q,by omega,by omega,n.o.els _ (in64_wrap64 _)⟩
  case rest=>
   clear n k5 e8;obtain⟨l4,va,vc,v,p',n4,q5,q6,hX⟩:=hcut;obtain⟨f1,f4,rfl⟩:=ax hX.st.asks;obtain⟨h5,h6,rfl⟩:=ax hX.st.cases;have n:=Kz hX;clear hX;have o1:=n.o.c1;have oz:=n.o.row.lt;have sz:=n.o.st.box.row.lt;obtain⟨cs,b8⟩:=aj (v.cells f1 f4 h5 h6);have g0:cs.length=8:=by rw[b8];rfl
   have l5:cs.toArray.all (·.oneCell')=true:=by rw[b8];exact Xj.one v _ _ _ _
   have l6:wc.rangeAt Y.heap.size 0 cs:=by
    rw[b8];have hb:=n.o.st.box;intro a1 M t;rw[KH]
    match a1,t with
    | 0,t=>simp[Xj.cells] at t;subst t;exact hb.c0
    | 1,t=>simp[Xj.cells] at t;subst t;exact hb.c1
    | 2,t=>simp[Xj.cells] at t;subst t;exact hb.c2
    | 3,t=>simp[Xj.cells] at t;subst t;exact hb.c3
    | 4,t=>simp[Xj.cells] at t;subst t;exact hb.c4
    | 5,t=>simp[Xj.cells] at t;subst t;exact hb.c5
    | 6,t=>simp[Xj.cells] at t;subst t;exact hb.c6
    | 7,t=>simp[Xj.cells] at t;subst t;exact hb.c7
    | a1+8,t=>simp[Xj.cells] at t
   have n5:=Kz l6;have a8:aC wc g 83 (F*8):=by
    rcases n.o.own.2 with⟨e,_⟩|⟨g',d0,n6,e,_,n7,_,_,n8,_⟩
    ·simp at e
    ·simp only[KX,KT,LG,and_true,true_and] at e;obtain⟨rfl,rfl⟩:=e;exact⟨n6,n7,n8⟩
   have gz:=a8.lt;have l7:wc.there g (U*8) cs.toArray.size:=by simpa[g0] using a8.row.there (o:=U*8) (m:=8) (by omega)
   have l8:(prog.info? 83).map (·.size)=some cs.toArray.size:=by rw[Tryz.ym];simp[g0]
   have l9:(prog.info? 83).map (·.size)=some cs.length:=by rw[Tryz.ym,g0]
   have⟨n9,o2,o3,d4⟩:=lg l8 l9 l7 l5;have i5:=n.o.store;rw[<-b8] at i5;have S:=Kz i5;have G:=Kz (d6.o.but S.o.kb (by omega));have o0:=S.o.c0;have n2:=S.o.c1;have n3:=S.o.row.lt;obtain⟨⟨_,x0⟩,g5⟩:=G.o.row.at (i:=0) (by omega);obtain⟨⟨_,x1⟩,g1⟩:=G.o.row.at (i:=1) (by omega);have xz:=G.o.lt;clear b8 g0 l5 l6 a8 l7 l8 l9 i5;go_wp2_with (first | (refine wpList_load_mid rfl 83 _ rfl Y.heap.size 0 rfl cs _ n5.o underlying83 rfl o2.o ?_) | (refine wpList_store_mid rfl 83 _ _ rfl g (U*8) cs.toArray rfl rfl o3.o n9.o d4.o ?_;rw[List.toList_toArray]))
   have hR:=JU (wc.setCells g (U*8) cs) (w.heap.size+1) 0 [.int .i64 l4,.slice (some ⟨g,0,none⟩) L.length F] (G.o.row.there (o:=0) (m:=2) (JP _));refine X_ [.int .i64 l4,.slice (some ⟨g,0,none⟩) L.length F] _ results97 rfl hR underlying77 rfl Tryz.g_ rfl (S.o.ends G.o (by omega) k0 d7.o rfl (by omega) (by omega) (by rw[Lp];omega) n4)
def mJ{α:Type}(R:α->α->Prop)(src:List α)(p:α):Prop:=∃c∈src,∃n,aR R n p c
structure uq (R:Nat->Nat->Prop) (src:List Nat) (S:Nat->Bool) (Q:List Nat):Prop where
 sub:∀p,S p=true->mJ R src p
 src:∀c∈src,S c=true
 q:∀p∈Q,S p=true
 nd:Q.Nodup
 don:∀p,S p=true->p∉Q->∀r,R r p->S r=true
structure lw (R:Nat->Nat->Prop) (src:List Nat) (p:Nat) (L:List Nat) (S:Nat->Bool) (Q:List Nat):Prop where
 sub:∀p,S p=true->mJ R src p
 src:∀c∈src,S c=true
 q:∀p∈Q,S p=true
 nd:Q.Nodup
 don:∀r,S r=true->r∉Q->r≠p->∀s,R s r->S s=true
 cur:∀s∈L,S s=true
 pos:S p=true
 out:p∉Q
variable {Q : List Nat} {S : Nat -> Bool}
section
variable {R : Nat -> Nat -> Prop} {src : List Nat}
theorem uq.start(R:Nat->Nat->Prop){b:List Nat}(h:b.Nodup):uq R b (fun p=>decide (p∈b)) b:=
 ⟨fun p a=>⟨p,by simpa using a,0,.here p⟩,fun c e=>by simpa using e,fun p a=>by simpa using a,h,fun p a f=>Lv (by simpa using a) f⟩
theorem uq.take{p:Nat}(h:uq R src S (p :: Q)):lw R src p [] S Q:=by
 have b:=List.nodup_cons.1 h.nd;refine⟨h.sub,h.src,fun r a=>h.q r (Kl _ a),b.2,fun r a c d=>h.don r a ?_,fun s f=>(by cases f),h.q p (by simp),b.1⟩;intro i;rcases Lb.1 i with e | e
 ·exact d e
 ·exact c e
theorem lw.old{p s:Nat}{L:List Nat}(h:lw R src p L S Q)(a:S s=true):lw R src p (L++ [s]) S Q:=
 ⟨h.sub,h.src,h.q,h.nd,h.don,fun r b=>by
  rcases JZ.1 b with e|e
  ·exact h.cur r e
  ·rw[JY] at e;rw[e];exact a,h.pos,h.out⟩
theorem lw.new{p s:Nat}{L:List Nat}(h:lw R src p L S Q)(m:R s p)(i:S s=false):lw R src p (L++ [s]) (fun r=>if r=s then true else S r) (Q++ [s]):=by
 have n:p≠s:=fun e=>by have:=h.pos;rw[e,i] at this;cases this
 have t:s∉Q:=fun e=>by have:=h.q s e;rw[i] at this;cases this
 have d:∀r,S r=true->(if r=s then true else S r)=true:=fun r b=>by split <;> simp[b]
 refine⟨fun r b=>?_,fun c f=>d c (h.src c f),fun r b=>?_, ?_,fun r b j v x w=>?_,fun r b=>?_,d p h.pos, ?_⟩
 ·by_cases e:r=s
  ·subst e;obtain⟨c,f,y,A⟩:=h.sub p h.pos;exact⟨c,f,y+1,.step m A⟩
  ·rw[Lu e] at b;exact h.sub r b
 ·rcases JZ.1 b with g|g
  ·exact d r (h.q r g)
  ·rw[JY] at g;simp[g]
 ·rw[List.nodup_append];exact⟨h.nd,by simp,fun a k C l e=>by rw[JY] at l;rw[e,l] at k;exact t k⟩
 ·have B:r≠s:=fun e=>j (by rw[e];simp)
  rw[Lu B] at b;exact d x (h.don r b (fun g=>j (JZ.2 (.inl g))) v x w)
 ·rcases JZ.1 b with g|g
  ·exact d r (h.cur r g)
  ·rw[JY] at g;simp[g]
 ·intro g;rcases JZ.1 g with g|g
  ·exact h.out g
  ·exact n (JY.1 g)
theorem lw.ends{p:Nat}{L:List Nat}(h:lw R src p L S Q)(b:∀s,R s p->s∈L):uq R src S Q:=
 ⟨h.sub,h.src,h.q,h.nd,fun r c d s a=>by
  by_cases e:r=p
  ·rw[e] at a;exact h.cur s (b s a)
  ·exact h.don r c d e s a⟩
theorem uq.whole(h:uq R src S [])(p:Nat):S p=true↔mJ R src p:=by
 refine⟨h.sub p, ?_⟩;rintro⟨c,d,n,a⟩
 induction n generalizing p with
 | zero=>rw[a.zero];exact h.src c d
 | succ n ih=>
  obtain⟨b,e,f⟩:=a.first
  exact h.don b (ih b f) (by simp) p e
end
