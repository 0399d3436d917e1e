import Derived.Test.YtbmhchdegdjfkaaGreatDoorKVLead
import Derived.Test.YtbmhchdegdjfkaaGreatDoorKWSpec
import Derived.Deep.RegionLaw
import Derived.Deep.AppendLies
import Derived.Laws.AppendOwnNone
import Derived.Test.YtbmhchdegdjfkaaGreatDoorKOTyped
import Derived.Deep.CutBlock
set_option maxRecDepth 100000
set_option maxHeartbeats 25600000
namespace Go.Proofs.YtbmhchdegdjfkaaGreatDoor
open Go.RowKit Go.Proofs.Tryz
def xZ(w:KH)(v:KI)(L:List Xq):Prop:=∃base xs,w.ownsRow base 83 8 v L.length xs/\eP w 9 177 xs L/\jK xs
def oP(w w':KH)(rb:Nat)(a:KG)(cap:Nat)(bs:List UInt8)(p t:Nat)(e:Ending):Prop:=
 ∃(cost:Int) (v:KI) (L:List Xq) (p':Nat),e= .returned (.agg #[.int .i64 cost,v])/\p<=p'/\p'<=p+t/\1<=L.length/\L.length<=20/\(-1000<=cost/\cost<=1000)/\(∀s∈L,s.Tiny)/\
  xZ w' v L/\Rd w' rb a cap bs p'/\Xj rb (rb+1) w w'
variable {bs : List UInt8} {cap p rb : Nat} {a : KG} {w w1 : KH}
theorem ASt.made{p0:Nat}(d:Rd w rb a cap bs p0)(h:Rd w1 rb a cap bs p)(k:Xj rb (rb+1) w w1)(cost:Int):
  ASt w (w1.alloc (.cells #[.int .i64 cost,.slice none 0 0] 77)) rb w1.heap.size a cap bs p cost (.slice none 0 0) [] []:=by
 have b:=X_ w1 #[.int .i64 cost,.slice none 0 0] 77;have c:K_ w1 (w1.alloc (.cells #[.int .i64 cost,.slice none 0 0] 77)):=ag _ _;exact⟨h.kept c,⟨p0,d⟩,k.size,k.eX c,au.made w1 _ _,b 0 _ rfl,b 1 _ rfl,JP _ _ _ _,eP.nil _ _ _,fun s e=>by simp at e,fun n i f=>by simp at f⟩
theorem SSt.made{W:KH}(h:Rd W rb a cap bs p){els fall:Int}(e: -1000<=els/\els<=1000)(f: -1000<=fall/\fall<=1000):
  SSt W (W.alloc (.cells #[.slice none 0 0,.int .i64 0,.slice none 0 0,.int .i64 els,.int .i64 fall,.bool false,.bool false,.string ⟨#[]⟩] 83)) rb W.heap.size a cap bs p (.slice none 0 0) (.slice none 0 0) ⟨[],0,[],els,fall,false,false,⟨#[]⟩⟩:=by
 have d:K_ W (W.alloc (.cells #[.slice none 0 0,.int .i64 0,.slice none 0 0,.int .i64 els,.int .i64 fall,.bool false,.bool false,.string ⟨#[]⟩] 83)):=ag _ _;exact⟨h.kept d,⟨p,h⟩,IZ _,.aC d,df.made W els fall,JP _ _ _ _,JP _ _ _ _,⟨by simp,fun x b=>by simp at b,⟨by show (-1000:Int)<=0;omega,by show (0:Int)<=1000;omega⟩,by simp,fun x b=>by simp at b,mD e,f,by show (⟨#[]⟩:KC).size<=300;decide⟩⟩
theorem Aq(w:KH)(a:KG)(c m:Nat)(l:List KC)(d:l.length=m)(n:l.length<=1000)(f:∀s∈l,s.size<=1000)(h:Strs w a l):
  Calls prog 84 #[.slice a m c] w fun e w'=>(∃b:Bool,e= .returned (.bool b))/\K_ w w':=by
 subst d;refine (kC w a c l (by unfold maxLen;omega) (fun s i=>by have:=f s i;unfold maxLen;omega) h).mono ?_;rintro e w' ⟨⟨r,rfl,_⟩,k⟩;exact⟨⟨r,rfl⟩,k⟩
theorem iB(w:KH)(x:KC):∀j u,([.string x]:List KI)[j]? =some u->(w.alloc (.cells #[.string x] 9)).cell? ((⟨w.heap.size,0,none⟩:Addr).add j)=some u:=fun j u b=>by
 rw[JL];exact X_ w #[.string x] 9 j u b
theorem ib(x:KC):∀u∈([.string x]:List KI),u.oneCell'=true:=fun u a=>by simp at a;subst a;rfl
variable {xs : List KI} {v : KI} {A0 : KH}
theorem jc.ends{b:KH}{q:Nat}{d t:Nat}{cost:Int}{f:List Xq}{e:Ending}(h:jc 20 A0 b rb q a cap bs d cost v f xs)(i:au b w.heap.size 77 2)(c:K_ w A0){r:Nat}(s:Rd w rb a cap bs r)
 (x:e= .returned (.agg #[.int .i64 cost,v])) (y:p<=d) (h2:d<=p+t) (A:1<=f.length) (B:f.length<=20) (C: -1000<=cost/\cost<=1000):oP w ((b.setCell ⟨w.heap.size,0,none⟩ (.int .i64 cost)).setCell ⟨w.heap.size,1,none⟩ v) rb a cap bs p t e:=by
 have D:=i.same (o:=0) (.int .i64 cost);have E:=(i.set (o:=0) (.int .i64 cost)).same (o:=1) v;have j:=D.trans E;have k:Below w.heap.size b ((b.setCell ⟨w.heap.size,0,none⟩ (.int .i64 cost)).setCell ⟨w.heap.size,1,none⟩ v):=((Below.refl _ _).setCell (p:=⟨w.heap.size,0,none⟩) (IZ _) _).setCell (p:=⟨w.heap.size,1,none⟩) (IZ _) _;have l:Xj rb (rb+1) w b:=⟨h.kb.os.trans c.os,h.kb.tape.trans c.tape,h.kb.output.trans c.output,Jb c.size h.kb.size,fun m n F=>(h.kb.block m (I_ n c.size) F).trans (c.block m n)⟩;exact⟨cost,v,f,d,x,y,h2,A,B,C,h.tiny,⟨_,xs,aH h.own j (by decide),h.pack.same j (by decide) (by decide),h.mU⟩,h.rd.below s k l.size,l.below k⟩
def IL(A0:KH)(ab rb:Nat)(a:KG)(cap:Nat)(bs:List UInt8)(p:Nat)(s8:KI)(wx:KH):Prop:=
 ∃(n1:Nat) (cost:Int) (p':Nat),s8= .int .i64 (1+ (n1:Int))/\n1<=3/\(1<=cost/\cost<=20)/\p<=p'/\p'<=p+4/\ASt A0 wx rb ab a cap bs p' cost (.slice none 0 0) [] []
def Hu(A0:KH)(ab rb:Nat)(a:KG)(cap:Nat)(bs:List UInt8)(p:Nat)(s7:KI)(wx:KH):Prop:=
 ∃(cost:Int),s7= .pointer (some ⟨ab,0,none⟩)/\(1<=cost/\cost<=20)/\ASt A0 wx rb ab a cap bs (p+2) cost (.slice none 0 0) [] []
theorem zJ{a:Addr}{l:List KC}(h:Strs w (some a) l):∀j u,(l.map Value.string)[j]? =some u->w.cell? (a.add j)=some u:=by
 intro j u b;rw[List.getElem?_map] at b;obtain⟨x,d,rfl⟩:=Option.map_eq_some_iff.1 b;obtain⟨c,f⟩:=Je.1 d;obtain⟨k,m,e,_,i⟩:=h j c;simp only[JI] at e;subst e;rw[JL,i];simp[List.getD,c,f]
theorem yf{a:Addr}{l:List bD}(h:jT w (some a) l):∀j u,(aT l)[j]? =some u->w.cell? (a.add j)=some u:=by
 intro j u b;have k:j<l.length*2:=by rw[<-h_];exact (Je.1 b).1
 have c:j / 2<l.length:=by omega
 have e:=jU l (j / 2) (j % 2) c (by omega);rw[show j / 2*2+j % 2=j by omega,b] at e;obtain⟨m,d,f,_,i⟩:=h (j / 2) c;simp only[JI] at f;subst f;have:=i (j % 2) u e.symm;rw[JL];rw[show d+j / 2*2+j % 2=d+j by omega] at this;exact this
def jE(w:KH)(a:KG)(l:List Xq):Prop:=
 ∀i,i<l.length->∃b o aa ca ac cc,a=some ⟨b,o,none⟩/\b<w.heap.size/\w.rangeAt b (o+i*8) ((l.getD i Xq.zero).cells aa ca ac cc)/\Strs w aa (l.getD i Xq.zero).asks/\jT w ac (l.getD i Xq.zero).cases/\
  (aa=none->(l.getD i Xq.zero).asks.length=0/\ca=0)/\(ac=none->(l.getD i Xq.zero).cases.length=0/\cc=0)
variable {l : List Xq} {w' : KH}
theorem jE.kept(h:jE w a l)(k:K_ w w'):jE w' a l:=by
 intro i c;obtain⟨d,o,e,f,j,m,n,b,p,q,r,s,t⟩:=h i c;exact⟨d,o,e,f,j,m,n,I_ b k.size,k.range b p,q.kept k,r.kept k,s,t⟩
def iw(w:KH)(base:Nat)(cs:List KI)(s:Xq):Prop:=
 ∃aa ca ac cc,cs=s.cells aa ca ac cc/\w.ownsRow base 9 1 (.slice aa s.asks.length ca) s.asks.length (s.asks.map Value.string)/\w.ownsRow base 177 2 (.slice ac s.cases.length cc) s.cases.length (aT s.cases)
variable {cs : List KI} {s : Xq} {u : TypeId}
theorem iw.same{base:Nat}(h:iw w base cs s)(k:ak u w w')(a:9≠u)(h2:177≠u):iw w' base cs s:=by
 obtain⟨b,c,d,e,f,i,j⟩:=h;exact⟨b,c,d,e,f,aH i k a,aH j k h2⟩
theorem iw.base{base base':Nat}(h:iw w base cs s)(a:base'<=base):iw w base' cs s:=by
 obtain⟨b,c,d,e,f,i,j⟩:=h;exact⟨b,c,d,e,f,bJ i a,bJ j a⟩
theorem iw.step{base:Nat}(h:iw w base cs s):ky w 9 177 cs s:=by
 obtain⟨k,l,m,n,e,c,d⟩:=h;obtain⟨p,q,a,f,i⟩:=bf c;obtain⟨r,t,b,j⟩:=ku d;simp only[JJ,true_and] at a b;obtain⟨rfl,rfl⟩:=a;obtain⟨rfl,rfl⟩:=b;exact⟨_,_,_,_,e,i,j,f⟩
theorem iw.mU{base:Nat}(h:iw w base cs s):jK cs:=by
 obtain⟨c,d,f,i,rfl,a,b⟩:=h;exact jv (fun e=>by subst e;exact ik a) (fun e=>by subst e;exact ik b)
def uy(cs:List KI):Option Nat:=(cs.getD 0 undef).ownBlock
def pF(cs:List KI):Option Nat:=(cs.getD 2 undef).ownBlock
theorem iw.AC{base:Nat}(h:iw w base cs s):(∀b,uy cs=some b->base<=b/\b<w.heap.size)/\∀b,pF cs=some b->base<=b/\b<w.heap.size:=by
 obtain⟨e,f,i,j,rfl,c,d⟩:=h;exact⟨fun b a=>c.lt b a,fun b a=>d.lt b a⟩
def jZ(xs:List KI)(i:Nat):List KI:=(xs.drop (i*8)).take 8
structure dN (w:KH) (base:Nat) (xs:List KI) (l:List Xq):Prop where
 len:xs.length=l.length*8
 each:∀i,i<l.length->iw w base (jZ xs i) (l.getD i Xq.zero)
 apart:∀i j,i<l.length->j<l.length->i≠j->(∀b,uy (jZ xs i)=some b->uy (jZ xs j)≠some b)/\∀b,pF (jZ xs i)=some b->pF (jZ xs j)≠some b
theorem dN.nil(w:KH)(base:Nat):dN w base [] []:=⟨rfl,fun i a=>by simp at a,fun i j a=>by simp at a⟩
theorem dN.same{base:Nat}(h:dN w base xs l)(k:ak u w w')(b:9≠u)(h2:177≠u):dN w' base xs l:=
 ⟨h.len,fun i d=>(h.each i d).same k b h2,h.apart⟩
theorem dN.packed{base:Nat}(h:dN w base xs l):eP w 9 177 xs l:=⟨h.len,fun i c=>(h.each i c).step⟩
theorem dN.push{base H:Nat}(m:dN w base xs l)(d:iw w H cs s)(a:base<=H)(k:∀i,i<l.length->(∀b,uy (jZ xs i)=some b->b<H)/\∀b,pF (jZ xs i)=some b->b<H):dN w base (xs++cs) (l++ [s]):=by
 have p:cs.length=8:=by obtain⟨_,_,_,_,rfl,_⟩:=d;rfl
 have n:=m.len;have old:∀i,i<l.length->jZ (xs++cs) i=jZ xs i/\(l++ [s]).getD i Xq.zero=l.getD i Xq.zero:=by
  intro i h;refine⟨?_,by simp[List.getD,JU h]⟩;unfold jZ;rw[List.drop_append_of_le_length (by omega),List.take_append_of_le_length (by rw[List.length_drop];omega)]
 have new:jZ (xs++cs) l.length=cs/\(l++ [s]).getD l.length Xq.zero=s:=by
  refine⟨?_,by simp[List.getD]⟩;unfold jZ;rw[<-n,List.drop_left,JC (by omega)]
 refine⟨by simp only[JH,JK,List.length_nil,n,p];omega,fun i h=>?_,fun i j h q r=>?_⟩
 ·by_cases e:i<l.length
  ·rw[(old i e).1,(old i e).2];exact m.each i e
  ·obtain rfl:i=l.length:=by simp at h;omega
   rw[new.1,new.2];exact d.base a
 ·simp only[JH,JK,List.length_nil] at h q;by_cases e:i<l.length
  ·by_cases f:j<l.length
   ·rw[(old i e).1,(old j f).1];exact m.apart i j e f r
   ·obtain rfl:j=l.length:=by omega
    rw[(old i e).1,new.1];exact⟨fun b a c=>by have:=(k i e).1 b a;have:=(d.AC.1 b c).1;omega,fun b a c=>by have:=(k i e).2 b a;have:=(d.AC.2 b c).1;omega⟩
  ·obtain rfl:i=l.length:=by omega
   have f:j<l.length:=by omega
   rw[new.1,(old j f).1];exact⟨fun b a c=>by have:=(k j f).1 b c;have:=(d.AC.1 b a).1;omega,fun b a c=>by have:=(k j f).2 b c;have:=(d.AC.2 b a).1;omega⟩
structure CSt (w wr:KH) (a:KG) (n cap:Nat) (cost:Int) (v:KI) (L:List Xq) (xs:List KI):Prop where
 kept:K_ w wr
 GN:au wr w.heap.size 77 2
 arg:wr.cell? ⟨w.heap.size,1,none⟩=some (.slice a n cap)
 res:au wr (w.heap.size+1) 77 2
 out:au wr (w.heap.size+2) 77 2
 o0:wr.cell? ⟨w.heap.size+2,0,none⟩=some (.int .i64 cost)
 o1:wr.cell? ⟨w.heap.size+2,1,none⟩=some v
 own:wr.ownsRow w.heap.size 83 8 v L.length xs
 pack:dN wr w.heap.size xs L
variable {L : List Xq} {n : Nat} {wr : KH}
theorem CSt.aC{cost:Int}(h:CSt w wr a n cap cost v L xs)(k:K_ wr w'):CSt w w' a n cap cost v L xs:=
 ⟨h.kept.trans k,h.GN.kept k,(k.cell h.GN.lt).trans h.arg,h.res.kept k,h.out.kept k,(k.cell h.out.lt).trans h.o0,(k.cell h.out.lt).trans h.o1,aj h.own k,h.pack.same (u:=90) (ak.aC k) (by decide) (by decide)⟩
variable {w2 : KH}
theorem CSt.fw{cost:Int}(h:CSt w wr a n cap cost v L xs)(f:K_ wr w1)(i:w1.grownBy w2 v.ownBlock):w2.cell? ⟨w.heap.size+2,1,none⟩=some v/\au w2 (w.heap.size+2) 77 2:=by
 have b:=h.aC f;have j:ak 83 w1 w2:=ak.aK b.own i;obtain⟨c,d,k⟩:=b.out;have e:=j _ c _ _ (by decide) d;exact⟨by rw[Jl (w:=w1) (e.trans d.symm)];exact b.o1,c,e,k⟩
variable {v' : KI}
theorem CSt.push{f:KH}{cost:Int}(h:CSt w wr a n cap cost v L xs)(x:K_ wr f)(i:K_ f w1)(y:iw f wr.heap.size cs s)
 (A:w2.ownsRow w.heap.size 83 8 v' (L.length+1) (xs++cs)) (j:w1.grownBy w2 v.ownBlock):CSt w (w2.setCell ⟨w.heap.size+2,1,none⟩ v') a n cap cost v' (L++ [s]) (xs++cs):=by
 have b:=h.aC (x.trans i);have k:ak 83 w1 w2:=ak.aK b.own j;have row:∀c,au w1 c 77 2->au w2 c 77 2/\∀o,w2.cell? ⟨c,o,none⟩=w1.cell? ⟨c,o,none⟩:=by
  intro c B;obtain⟨l,m,C⟩:=B;have d:=k _ l _ _ (by decide) m;exact⟨⟨l,d,C⟩,fun o=>Jl (w:=w1) (d.trans m.symm)⟩
 have p:=row _ b.GN;have D:=row _ b.res;have e:=row _ b.out;have q:=e.1.same (o:=1) v';have E:=h.kept.size;have F:dN w1 w.heap.size (xs++cs) (L++ [s]):=b.pack.push (y.same (u:=90) (ak.aC i) (by decide) (by decide)) E (fun r t=>⟨fun c d=>((h.pack.each r t).AC.1 c d).2,fun c d=>((h.pack.each r t).AC.2 c d).2⟩);refine⟨(aF b.kept (IZ _) b.own j).setCell (by simp) _,p.1.block (Below.heap_setCell _ _ _ _ (by simp)), ?_,D.1.block (Below.heap_setCell _ _ _ _ (by simp)),e.1.set _,(Xk (by omega) _).trans ((e.2 0).trans b.o0),aS e.1.row (by omega) _, ?_,(F.same k (by decide) (by decide)).same q (by decide) (by decide)⟩
 ·rw[Jr _ _ _ _ (by simp)];exact (p.2 1).trans b.arg
 ·have:=aH A q (by decide);simpa using this
def CS1(wr wx:KH)(s:Xq)(v1 v2:KI):Prop:=K_ wr wx/\df wx wr.heap.size v1 v2 s/\wx.ownsRow wr.heap.size 9 1 v1 s.asks.length (s.asks.map Value.string)
def CS2(wr wx:KH)(s:Xq)(v1 v2:KI):Prop:=CS1 wr wx s v1 v2/\wx.ownsRow wr.heap.size 177 2 v2 s.cases.length (aT s.cases)
def Ii(w w':KH)(cost:Int)(L:List Xq)(e:Ending):Prop:=
 ∃(v:KI) (xs:List KI),e= .returned (.agg #[.int .i64 cost,v])/\w'.ownsRow w.heap.size 83 8 v L.length xs/\dN w' w.heap.size xs L/\K_ w w'
theorem df.copied(w:KH)(s:Xq)(b:KG)(c:Nat)(d:KG)(e:Nat):df (w.alloc (.cells #[.slice b s.asks.length c,.int .i64 s.on,.slice d s.cases.length e,.int .i64 s.els,.int .i64 s.fall,.bool s.fin,.bool s.bad,.string s.give] 83)) w.heap.size (.slice b s.asks.length c) (.slice d s.cases.length e) s:=by
 have f:=X_ w #[.slice b s.asks.length c,.int .i64 s.on,.slice d s.cases.length e,.int .i64 s.els,.int .i64 s.fall,.bool s.fin,.bool s.bad,.string s.give] 83;have a:∀j v,(#[.slice b s.asks.length c,.int .i64 s.on,.slice d s.cases.length e,.int .i64 s.els,.int .i64 s.fall,.bool s.fin,.bool s.bad,.string s.give]:Array KI).toList[j]? =some v->(w.alloc (.cells #[.slice b s.asks.length c,.int .i64 s.on,.slice d s.cases.length e,.int .i64 s.els,.int .i64 s.fall,.bool s.fin,.bool s.bad,.string s.give] 83)).cell? ⟨w.heap.size,j,none⟩=some v:=fun j v h=>by
  have:=f j v h;rw[JA] at this;exact this
 exact⟨au.made w _ _,a 0 _ rfl,a 1 _ rfl,a 2 _ rfl,a 3 _ rfl,a 4 _ rfl,a 5 _ rfl,a 6 _ rfl,a 7 _ rfl⟩
variable {xs0 : List KI} {n0 : Nat} {u0 v0 : KI} {W1 : KH}
theorem CS1.mk'{v1 v2:KI}(e:K_ wr W1)(f:df W1 wr.heap.size v0 v2 s)(a:K_ W1 w1)(b:w1.ownsRow wr.heap.size 9 1 u0 n0 xs0)(c:w1.grownBy w2 u0.ownBlock)
 (h:w2.ownsRow wr.heap.size 9 1 v1 s.asks.length (s.asks.map Value.string)):CS1 wr (w2.setCell ⟨wr.heap.size,0,none⟩ v1) s v1 v2:=by
 have d:df w2 wr.heap.size v0 v2 s:=(f.kept a).same (ak.aK b c) (by decide);exact⟨(aF (e.trans a) (IZ _) b c).setCell (IZ _) _,d.asks v1 s.asks,aH h (d.row.same _) (by decide)⟩
theorem CS1.box{v2:KI}(a:df W1 wr.heap.size v0 v2 s)(b:K_ W1 w1)(c:w1.ownsRow wr.heap.size 9 1 u0 n0 xs0)(d:w1.grownBy w2 u0.ownBlock):df w2 wr.heap.size v0 v2 s:=
 (a.kept b).same (ak.aK c d) (by decide)
theorem CS2.mk'{v1 v2:KI}(h:CS1 wr W1 s v1 v0)(a:K_ W1 w1)(c:w1.ownsRow wr.heap.size 177 2 u0 n0 xs0)(d:w1.grownBy w2 u0.ownBlock)
 (f:w2.ownsRow wr.heap.size 177 2 v2 s.cases.length (aT s.cases)):CS2 wr (w2.setCell ⟨wr.heap.size,2,none⟩ v2) s v1 v2:=by
 obtain⟨i,j,k⟩:=h;have e:=ak.aK c d;have b:df w2 wr.heap.size v1 v0 s:=(j.kept a).same e (by decide);exact⟨⟨(aF (i.trans a) (IZ _) c d).setCell (IZ _) _,b.cases v2 s.cases,aH (aH (aj k a) e (by decide)) (b.row.same _) (by decide)⟩,aH f (b.row.same _) (by decide)⟩
theorem CS2.box{v1:KI}(h:CS1 wr W1 s v1 v0)(b:K_ W1 w1)(c:w1.ownsRow wr.heap.size 177 2 u0 n0 xs0)(d:w1.grownBy w2 u0.ownBlock):df w2 wr.heap.size v1 v0 s:=
 (h.2.1.kept b).same (ak.aK c d) (by decide)
theorem tY(w:KH)(r:Option Nat):w.grownBy w r:=⟨rfl,rfl,rfl,IZ _,fun _ _ _=>rfl⟩
theorem zX(w:KH){base:Nat}(a:base<=w.heap.size)(t:TypeId)(size:Nat):(w.alloc (.cells #[] t)).ownsRow base t size (.slice (some ⟨w.heap.size,0,none⟩) 0 0) 0 []:=
 Jz w #[] 0 a (Ja _) (by simp)
theorem Ap(w:KH)(cost:Int)(a:KG)(v:Nat)(l:List Xq)(hl:l.length<=1000){mN:Nat}(f7:mN<=1000)(hs:∀s∈l,s.TinyN mN)(hS:jE w a l):
  Calls prog 124 #[.agg #[.int .i64 cost,.slice a l.length v]] w fun e w'=>Ii w w' cost l e:=by
 go_enter func124,ntmps124
 go_wp2
 have k0:K_ w (((w.alloc (.cells #[.int .i64 cost,.slice a l.length v] 77)).alloc (.cells #[.int .i64 0,.slice none 0 0] 77)).alloc (.cells #[.int .i64 cost,.slice none 0 0] 77)):=((ag _ _).alloc _).alloc _;go_loopg [4] l.length (fun g b6 wr=>∃(k:Nat) (b2:KI) (E:List KI),k+g=l.length/\b6= .int .i64 k/\CSt w wr a l.length v cost b2 (l.take k) E)
 case atStart=>
  have Z:=X_ ((w.alloc (.cells #[.int .i64 cost,.slice a l.length v] 77)).alloc (.cells #[.int .i64 0,.slice none 0 0] 77)) #[.int .i64 cost,.slice none 0 0] 77;simp only[JG] at Z;refine⟨0,.slice none 0 0,[],by omega,rfl,⟨k0, ?_, ?_, ?_, ?_,Z 0 _ rfl,Z 1 _ rfl,JP _ _ _ _,dN.nil _ _⟩⟩
  ·exact au.kept (au.made w #[.int .i64 cost,.slice a l.length v] 77) ((ag _ _).alloc _)
  ·rw[K_.cell (w:=w.alloc (.cells #[.int .i64 cost,.slice a l.length v] 77)) ((ag _ _).alloc _) (by simp)];exact X_ w _ _ 1 _ rfl
  ·exact au.kept (by have:=au.made (w.alloc (.cells #[.int .i64 cost,.slice a l.length v] 77)) #[.int .i64 0,.slice none 0 0] 77;simpa using this) (ag _ _)
  ·have:=au.made ((w.alloc (.cells #[.int .i64 cost,.slice a l.length v] 77)).alloc (.cells #[.int .i64 0,.slice none 0 0] 77)) #[.int .i64 cost,.slice none 0 0] 77;simpa using this
 case round=>
  clear k0;obtain⟨k,b2,E,hk,rfl,S⟩:=hrel;have b:=Kz S;have p1:=S.arg;have zp:=S.GN.lt;clear S;by_cases T:k<l.length
  ·obtain⟨f8,o,U,V,F,G,rfl,hb,i,hA,a0,A,B⟩:=(hS.kept b.o.kept) k T;have H:=hs (l.getD k Xq.zero) (by simp[List.getD,T]);obtain⟨s,a1⟩:=ah (l.getD k Xq.zero);rw[<-a1] at i hA a0 H A B;have b7:=Kz a1;clear a1;have c0:=i 0 _ rfl;have c1:=i 1 _ rfl;have c2:=i 2 _ rfl;have c3:=i 3 _ rfl;have c4:=i 4 _ rfl;have c5:=i 5 _ rfl;have c6:=i 6 _ rfl;have c7:=i 7 _ rfl;rw[JM] at c0;clear i;have⟨HA,b8⟩:=aD hA a0;have x:=Kz (df.copied wr s U V F G);have y:Hid (K_ wr (wr.alloc (.cells #[.slice U s.asks.length V,.int .i64 s.on,.slice F s.cases.length G,.int .i64 s.els,.int .i64 s.fall,.bool s.fin,.bool s.bad,.string s.give] 83))):=ag _ _;have b9:=H.asks;have c8:=H.cases;have f9:=Kz H;clear hA a0 H;have g0:(k:Int)<l.length:=by omega
   go_upto_region 6 with fail
   obtain⟨I,b3⟩:=ah (wr.alloc (.cells #[.slice U s.asks.length V,.int .i64 s.on,.slice F s.cases.length G,.int .i64 s.els,.int .i64 s.fall,.bool s.fin,.bool s.bad,.string s.give] 83));rw[<-b3] at x y⊢;clear b3 c0 c1 c2 c3 c4 c5 c6 c7 p1;have y0:=x.o.c0;have J:=x.o.row.lt;have c9:=y.o.size;obtain⟨_,f0⟩:=x.o.cell (o:=0) (by omega);obtain⟨ia,d0,d1,d2,d3⟩:=aM Tryz.d_;obtain⟨ic,d4,d5,d6,d7⟩:=aM Tryz.om;have c:=Kz (zX I (base:=wr.heap.size) y.o.size 9 1);have d:Hid (K_ I (I.alloc (.cells #[] 9))):=ag _ _;go_cut [5] from 9 to 36 (fun s5 wx=>∃W,s5= .pointer (some ⟨wr.heap.size,0,none⟩)/\CS1 wr wx s W (.slice F s.cases.length G))
   case first=>
    rcases U with _|ad
    ·obtain⟨C,K⟩:=A rfl;have a2:Hid (s.asks=[]):=Kn C;rw[C,K] at y0;clear A B b9 C K;go_wp2
     go_meet
     rw[<-World.setCell_alloc_past _ _ _ _ J];exact⟨_,rfl,CS1.mk' y.o x.o d.o c.o (tY _ _) (by rw[a2.o];exact c.o)⟩
    ·have L:=Kz (zJ ((HA.o.kept y.o).kept d.o));have a3:wr.heap.size<=(I.alloc (.cells #[] 9)).heap.size:=(y.o.trans d.o).size;clear A B;go_wp2_with (at_builtin;refine wpList_append_own _ rfl (.tmp 21) (.tmp 23) 26 rfl wr.heap.size 9 ia _ 1 16 underlying26 d0 d1 d2 d3 rfl (by decide) (.slice (some ⟨I.heap.size,0,none⟩) 0 0) 0 [] rfl c.o ad s.asks.length V (s.asks.map Value.string) rfl (by simp) L.o (ug _) (by unfold maxLen;omega) (by omega) a3 ?_;intro W w2 n D _;rw[JA,List.nil_append] at n;obtain⟨d8,d9,rfl⟩:=ax n;have f:=CS1.box x.o d.o c.o D;have M:=f.c0;have z2:=f.row.lt;obtain⟨_,X⟩:=f.cell (o:=0) (by omega);have a4:=Kz n;have a5:=Kz D;clear n D f)
     go_meet
     exact⟨_,rfl,CS1.mk' y.o x.o d.o c.o a5.o a4.o⟩
   case rest=>
    clear c d y0 J f0 c9;obtain⟨W,rfl,h1⟩:=hcut;obtain⟨N,rfl⟩:=ah wc;have j:=Kz h1;clear h1 x y;have M:=j.o.2.1.c2;have J:=j.o.2.1.row.lt;obtain⟨_,X⟩:=j.o.2.1.cell (o:=2) (by omega);have c:=Kz (zX N (base:=wr.heap.size) j.o.1.size 177 2);have d:Hid (K_ N (N.alloc (.cells #[] 177))):=ag _ _;go_upto_region 7 with fail
    go_cut [5] from 9 to 36 (fun s5 wx=>∃v2,s5= .pointer (some ⟨wr.heap.size,0,none⟩)/\CS2 wr wx s W v2)
    case first=>
     rcases F with _|ad
     ·obtain⟨C,K⟩:=B rfl;have a2:Hid (s.cases=[]):=Kn C;rw[C,K] at M;clear A B c8 C K;go_wp2
      go_meet
      rw[<-World.setCell_alloc_past _ _ _ _ J];exact⟨_,rfl,CS2.mk' j.o d.o c.o (tY _ _) (by rw[a2.o];exact c.o)⟩
     ·have L:=Kz (yf ((b8.o.kept j.o.1).kept d.o));have a3:wr.heap.size<=(N.alloc (.cells #[] 177)).heap.size:=(j.o.1.trans d.o).size;clear A B;go_wp2_with (at_builtin;refine wpList_append_own _ rfl (.tmp 26) (.tmp 28) 81 rfl wr.heap.size 177 ic _ 2 24 underlying81 d4 d5 d6 d7 rfl (by decide) (.slice (some ⟨N.heap.size,0,none⟩) 0 0) 0 [] rfl c.o ad s.cases.length G (aT s.cases) rfl (h_ _) L.o (uf _) (by unfold maxLen;omega) (by omega) a3 ?_;intro v2 w2 n D _;rw[JA,List.nil_append] at n;obtain⟨d8,d9,rfl⟩:=ax n;have f:=CS2.box j.o d.o c.o D;have M:=f.c2;have z2:=f.row.lt;obtain⟨_,X⟩:=f.cell (o:=2) (by omega);have a4:=Kz n;have a5:=Kz D;clear n D f)
      go_meet
      exact⟨_,rfl,CS2.mk' j.o d.o c.o a5.o a4.o⟩
    case rest=>
     clear c d M J X j;obtain⟨v2,rfl,h2⟩:=hcut;obtain⟨⟨k4,h,a6⟩,a7⟩:=h2;obtain⟨p,q,rfl⟩:=ax a6;obtain⟨r,t,rfl⟩:=ax a7;have e0:Hid (iw wc wr.heap.size (s.cells p q r t) s):=⟨p,q,r,t,rfl,a6,a7⟩;have⟨g1,a8⟩:=aD h k4;clear a6 a7;have c0:=h.c0;have c1:=h.c1;have c2:=h.c2;have c3:=h.c3;have c4:=h.c4;have c5:=h.c5;have c6:=h.c6;have c7:=h.c7;have cz:=h.row.lt;clear h k4;have O:=b.o.aC a8.o;obtain⟨e1,e2,rfl⟩:=ax b.o.own;have o1:=O.o1;have oz:=O.out.lt;have P:K_ wc (wc.alloc (.cells #[.slice p s.asks.length q,.int .i64 s.on,.slice r s.cases.length t,.int .i64 s.els,.int .i64 s.fall,.bool s.fin,.bool s.bad,.string s.give] 83)):=ag _ _;have e3:=Kz P;have b4:=Kz (O.aC P).own;have e4:=Kz (O.aC P).kept.size;have b5:∀Y u,(s.cells p q r t)[Y]? =some u->(wc.alloc (.cells #[.slice p s.asks.length q,.int .i64 s.on,.slice r s.cases.length t,.int .i64 s.els,.int .i64 s.fall,.bool s.fin,.bool s.bad,.string s.give] 83)).cell? ((⟨wc.heap.size,0,none⟩:Addr).add Y)=some u:=fun Y u hu=>by rw[JL];exact X_ wc #[.slice p s.asks.length q,.int .i64 s.on,.slice r s.cases.length t,.int .i64 s.els,.int .i64 s.fall,.bool s.fin,.bool s.bad,.string s.give] 83 Y u hu
     have L:=Kz b5;obtain⟨is,e5,e6,e7,e8⟩:=aM Tryz.jB;have a9:(l.take k).length=k:=by rw[Jt];omega
     rw[a9] at o1 b4 b;have g2:k<=1000:=by omega
     have e9:=Kz a9;have f1:=Kz (a8.o.trans P);clear P b5 O A B a9;go_wp2_with (at_builtin;refine wpList_append_own _ rfl (.tmp 32) (.tmp 34) 75 rfl w.heap.size 83 is _ 8 96 underlying75 e5 e6 e7 e8 rfl (by decide) (.slice e1 k e2) k E rfl b4.o ⟨wc.heap.size,0,none⟩ 1 1 (s.cells p q r t) rfl rfl L.o (iF s p q r t) (by unfold maxLen;omega) (by omega) e4.o ?_;intro v' w2 b0 b1 _;have f:=b.o.fw f1.o b1;have z2:=f.2.lt;obtain⟨⟨_,M⟩,X⟩:=f.2.row.at (i:=1) (by omega);have f2:=Kz b0;obtain⟨Q,R,rfl⟩:=ax b0;have f3:=Kz b1;clear b0 b1 f)
     go_roundg (gk-1)
     case measure=>omega
     case rel=>
      have et:l.take (k+1)=l.take k++ [s]:=by
       rw[Jf T,b7.o];simp[List.getD,T]
      refine⟨k+1,.slice Q (k+1) R,E++s.cells p q r t,by omega,by go_num, ?_⟩;rw[et];exact b.o.push a8.o e3.o e0.o (by rw[e9.o];exact f2.o) f3.o
  ·have f4:k=l.length:=by omega
   subst f4;rw[JB] at b;have o0:=b.o.o0;obtain⟨Q,R,rfl⟩:=ax b.o.own;have o1:=b.o.o1;have oz:=b.o.out.lt;obtain⟨⟨_,x0⟩,g3⟩:=b.o.res.row.at (i:=0) (by omega);obtain⟨⟨_,x1⟩,g4⟩:=b.o.res.row.at (i:=1) (by omega);have rz:=b.o.res.lt;go_wp2
   have hR:=Jc wr (w.heap.size+1) 0 [.int .i64 cost,.slice Q l.length R] (b.o.res.row.there (o:=0) (m:=2) (IZ _));have f5:=b.o.res.same (o:=0) (.int .i64 cost);have f6:=(b.o.res.set (o:=0) (.int .i64 cost)).same (o:=1) (.slice Q l.length R);have hk:=f5.trans f6;exact Zx [.int .i64 cost,.slice Q l.length R] _ results124 rfl hR underlying77 rfl Tryz.gY rfl ⟨_,E,rfl,aH b.o.own hk (by decide),b.o.pack.same hk (by decide) (by decide),(b.o.kept.setCell (by simp) _).setCell (by simp) _⟩
theorem Tryz.xx :(prog.info? 83).map (·.size)=some 8:=by kernel_rfl
def StW(w:KH)(v:KI)(L:List Xq):Prop:=
 ∃a cap,v= .slice a L.length cap/\L.length<=cap/\∀i,i<L.length->∃b o cur fr cs,a=some ⟨b,o,none⟩/\w.heap[b]? =some (Obj.cells cur 83 fr)/\w.rangeAt b (o+i*8) cs/\ky w 9 177 cs (L.getD i Xq.zero)/\jK cs
theorem StW.same(h:StW w v L)(k:ak u w w')(i:83≠u)(l:9≠u)(h2:177≠u):StW w' v L:=by
 obtain⟨a,m,n,p,g⟩:=h;refine⟨a,m,n,p,fun q r=>?_⟩;obtain⟨b,o,c,d,s,t,e,x,y,A⟩:=g q r;have f:=k b c _ d i e;exact⟨b,o,c,d,s,t,f,fun j B C=>by rw[Jl (w:=w) (f.trans e.symm)];exact x j B C,y.same k l h2,A⟩
theorem oh{base g:Nat}(h:w.ownsRow base 83 8 (.slice (some ⟨g,0,none⟩) n cap) n xs)(i:Nat):w.rangeAt g (0+i*8) (jZ xs i):=by
 intro j u a;unfold jZ at a;have d:j<8:=by have:=(Je.1 a).1;rw[Jt] at this;omega
 rw[List.getElem?_take,Kg d,List.getElem?_drop] at a;have:=h.cells (g:=g) rfl _ _ a;rw[JL] at this;rw[Nat.add_assoc];exact this
theorem Gc{i:Nat}{u:KI}(h:u∈jZ xs i):u∈xs:=List.mem_of_mem_drop (List.mem_of_mem_take h)
theorem StW.fQ{base:Nat}(h:w.ownsRow base 83 8 v L.length xs)(b:eP w 9 177 xs L)(c:jK xs):StW w v L:=by
 rcases h.2 with⟨rfl,d⟩|⟨g,e,f,rfl,p,j,k,_,_,_⟩
 ·exact⟨none,0,by rw[d],by omega,fun i a=>by omega⟩
 ·exact⟨_,e,rfl,k,fun i a=>⟨g,0,f,_,_,rfl,j,oh h i,b.2 i a,fun n l m=>c n l (Gc m)⟩⟩
theorem dN.mU{base:Nat}(h:dN w base xs l):jK xs:=by
 intro n c a;obtain⟨j,b,d⟩:=Jk a;have f:=h.len;have e:j / 8<l.length:=by omega
 refine (h.each (j / 8) e).mU n c ?_;rw[<-d];unfold jZ;refine Jm (i:=j % 8) ?_;rw[List.getElem?_take,Kg (by omega),List.getElem?_drop,show j / 8*8+j % 8=j by omega,Jd b]
def GQ(M:Nat)(w w':KH)(rb:Nat)(a:KG)(cap:Nat)(bs:List UInt8)(p t:Nat)(e:Ending):Prop:=
 ∃(cost:Int) (v:KI) (L:List Xq) (p':Nat),e= .returned (.agg #[.int .i64 cost,v])/\p<=p'/\p'<=p+t/\L.length<=21/\(-1000<=cost/\cost<=1000)/\(∀s∈L,s.TinyN M)/\StW w' v L/\Rd w' rb a cap bs p'/\Xj rb (rb+1) w w'
theorem jV{base size:Nat}{e:TypeId}(h:w.ownsRow base e size v n xs)(a:∀b,v.ownBlock=some b->w'.heap[b]? =w.heap[b]?):w'.ownsRow base e size v n xs:=by
 refine⟨h.1, ?_⟩;rcases h.2 with c|⟨g,d,f,rfl,i,j,rest⟩
 ·exact .inl c
 ·exact .inr ⟨g,d,f,rfl,i,(a g rfl).trans j,rest⟩
def Oth(w:KH)(base:Nat)(va vc:KI)(cs:List KI)(t:Xq):Prop:=iw w base cs t/\(∀b,uy cs=some b->va.ownBlock≠some b)/\∀b,pF cs=some b->vc.ownBlock≠some b
variable {va vc : KI}
theorem Oth.same{base:Nat}{t:Xq}(h:Oth w base va vc cs t)(k:ak u w w')(b:9≠u)(h2:177≠u):Oth w' base va vc cs t:=⟨h.1.same k b h2,h.2⟩
theorem Oth.FO{base:Nat}{t:Xq}(h:Oth w1 base va vc cs t)(i:w1.ownsRow base 9 1 va n xs)(c:w1.grownBy w2 va.ownBlock)(j:v'.ownBlock=va.ownBlock\/v'.ownBlock=some w1.heap.size):Oth w2 base v' vc cs t:=by
 have d:=h.1.AC;obtain⟨⟨k,l,m,p,rfl,q,r⟩,f,s⟩:=h;refine⟨⟨k,l,m,p,rfl,jV q (fun b a=>c.block b (d.1 b a).2 (fun e=>f b a e.symm)),aH r (ak.aK i c) (by decide)⟩,fun b a=>?_,s⟩;rcases j with e | e
 ·rw[e];exact f b a
 ·rw[e];intro v;have:=(d.1 b a).2;simp only[JI] at v;omega
theorem Oth.En{base:Nat}{t:Xq}(h:Oth w1 base va vc cs t)(i:w1.ownsRow base 177 2 vc n xs)(c:w1.grownBy w2 vc.ownBlock)(j:v'.ownBlock=vc.ownBlock\/v'.ownBlock=some w1.heap.size):Oth w2 base va v' cs t:=by
 have d:=h.1.AC;obtain⟨⟨k,l,m,p,rfl,q,r⟩,s,f⟩:=h;refine⟨⟨k,l,m,p,rfl,aH q (ak.aK i c) (by decide),jV r (fun b a=>c.block b (d.2 b a).2 (fun e=>f b a e.symm))⟩,s,fun b a=>?_⟩;rcases j with e | e
 ·rw[e];exact f b a
 ·rw[e];intro v;have:=(d.2 b a).2;simp only[JI] at v;omega
structure dM (M:Nat) (w wr:KH) (rb ob sb:Nat) (a:KG) (cap:Nat) (bs:List UInt8) (p:Nat) (cost:Int) (v:KI) (L:List Xq) (xs:List KI) (k:Nat) (va vc:KI) (s:Xq):Prop where
 st:fK M w wr rb sb a cap bs p va vc s
 obl:w.heap.size<=ob
 row:au wr ob 77 2
 c0:wr.cell? ⟨ob,0,none⟩=some (.int .i64 cost)
 c1:wr.cell? ⟨ob,1,none⟩=some v
 own:wr.ownsRow w.heap.size 83 8 v L.length xs
 sbn:v.ownBlock≠some sb
 len:xs.length=L.length*8
 kl:k<L.length
 oth:∀i,i<L.length->i≠k->Oth wr w.heap.size va vc (jZ xs i) (L.getD i Xq.zero)
 tiny:∀s∈L,s.TinyN M
variable {t : TypeId}
theorem au.eF{b:Nat}(h:au w b t n)(k:ak u w w')(e:t≠u):au w' b t n/\∀o,w'.cell? ⟨b,o,none⟩=w.cell? ⟨b,o,none⟩:=by
 obtain⟨a,c,f⟩:=h;have d:=k _ a _ _ e c;exact⟨⟨a,d,f⟩,fun o=>Jl (w:=w) (d.trans c.symm)⟩
variable {M k ob sb : Nat}
theorem dM.drawn{d:Nat}{cost:Int}(h:dM M w wr rb ob sb a cap bs p cost v L xs k va vc s)(f:Rd w' rb a cap bs d)(e:Xj rb (rb+1) wr w'):dM M w w' rb ob sb a cap bs d cost v L xs k va vc s:=by
 have b:=e.sameKind h.st.rd;have c:=h.row.eF b (by decide);exact⟨h.st.drawn f e,h.obl,c.1,(c.2 0).trans h.c0,(c.2 1).trans h.c1,aH h.own b (by decide),h.sbn,h.len,h.kl,fun i j l=>(h.oth i j l).same b (by decide) (by decide),h.tiny⟩
theorem dM.kept{cost:Int}(h:dM M w wr rb ob sb a cap bs p cost v L xs k va vc s)(c:K_ wr w'):dM M w w' rb ob sb a cap bs p cost v L xs k va vc s:=h.drawn (h.st.rd.kept c) (.aC c)
theorem dM.field{cost:Int}{c:Xq}(h:dM M w wr rb ob sb a cap bs p cost v L xs k va vc s){o:Nat}{x:KI}(f:df (wr.setCell ⟨sb,o,none⟩ x) sb va vc c)(i:c.asks=s.asks)(j:c.cases=s.cases)(l:c.TinyN M):dM M w (wr.setCell ⟨sb,o,none⟩ x) rb ob sb a cap bs p cost v L xs k va vc c:=by
 have e:=h.st.box.row.same (o:=o) x;have d:=h.row.eF e (by decide);exact⟨h.st.field f i j l,h.obl,d.1,(d.2 0).trans h.c0,(d.2 1).trans h.c1,jV h.own (fun b m=>Below.heap_setCell _ _ _ _ (fun n=>h.sbn (by rw[m,n]))),h.sbn,h.len,h.kl,fun q r t=>(h.oth q r t).same e (by decide) (by decide),h.tiny⟩
theorem dM.nT{cost:Int}{x:KC}(h:dM M w wr rb ob sb a cap bs p cost v L xs k va vc s)(j:K_ wr w1)
 (m:w2.ownsRow w.heap.size 9 1 v' (s.asks.length+1) (s.asks.map Value.string++ [.string x])) (d:w1.grownBy w2 va.ownBlock) (n:v'.ownBlock=va.ownBlock\/v'.ownBlock=some w1.heap.size) (q:s.asks.length+1<=M) (r:x.size<=300):dM M w (w2.setCell ⟨sb,0,none⟩ v') rb ob sb a cap bs p cost v L xs k v' vc {s with asks:=s.asks++ [x]}:=by
 have c:=h.kept j;have e:ak 9 w1 w2:=ak.aK c.st.asks d;have t:=c.st.box.same e (by decide);have l:=t.row.same (o:=0) v';have f:=c.row.eF e (by decide);have i:=f.1.eF l (by decide);exact⟨h.st.nT j m d q r,h.obl,i.1,(i.2 0).trans ((f.2 0).trans c.c0),(i.2 1).trans ((f.2 1).trans c.c1),jV (aH c.own e (by decide)) (fun b y=>Below.heap_setCell _ _ _ _ (fun A=>h.sbn (by rw[y,A]))),h.sbn,h.len,h.kl,
  fun B C D=>((c.oth B C D).FO c.st.asks d n).same l (by decide) (by decide),h.tiny⟩
theorem dM.qw{cost:Int}{x:bD}(h:dM M w wr rb ob sb a cap bs p cost v L xs k va vc s)(j:K_ wr w1)
 (m:w2.ownsRow w.heap.size 177 2 v' (s.cases.length+1) (aT s.cases++x.cells)) (d:w1.grownBy w2 vc.ownBlock) (n:v'.ownBlock=vc.ownBlock\/v'.ownBlock=some w1.heap.size) (q:s.cases.length+1<=M) (r:x.Tiny):dM M w (w2.setCell ⟨sb,2,none⟩ v') rb ob sb a cap bs p cost v L xs k va v' {s with cases:=s.cases++ [x]}:=by
 have c:=h.kept j;have e:ak 177 w1 w2:=ak.aK c.st.cases d;have t:=c.st.box.same e (by decide);have l:=t.row.same (o:=2) v';have f:=c.row.eF e (by decide);have i:=f.1.eF l (by decide);exact⟨h.st.qw j m d q r,h.obl,i.1,(i.2 0).trans ((f.2 0).trans c.c0),(i.2 1).trans ((f.2 1).trans c.c1),jV (aH c.own e (by decide)) (fun b y=>Below.heap_setCell _ _ _ _ (fun A=>h.sbn (by rw[y,A]))),h.sbn,h.len,h.kl,
  fun B C D=>((c.oth B C D).En c.st.cases d n).same l (by decide) (by decide),h.tiny⟩
theorem dM.cost{cost x:Int}(h:dM M w wr rb ob sb a cap bs p cost v L xs k va vc s):dM M w (wr.setCell ⟨ob,0,none⟩ (.int .i64 x)) rb ob sb a cap bs p x v L xs k va vc s:=by
 have b:=h.row.same (o:=0) (.int .i64 x);have c:Below w.heap.size wr (wr.setCell ⟨ob,0,none⟩ (.int .i64 x)):=(Below.refl _ _).setCell h.obl _;obtain⟨l,d⟩:=h.st.rd0;have e:fK M w (wr.setCell ⟨ob,0,none⟩ (.int .i64 x)) rb sb a cap bs p va vc s:=⟨h.st.rd.below d c h.st.kb.size,h.st.rd0,h.st.sbl,h.st.kb.below c,h.st.box.same b (by decide),aH h.st.asks b (by decide),aH h.st.cases b (by decide),h.st.tiny⟩;exact⟨e,h.obl,h.row.set _,aS h.row.row (by omega) _,(Xk (by omega) _).trans h.c1,aH h.own b (by decide),h.sbn,h.len,h.kl,fun i f j=>(h.oth i f j).same b (by decide) (by decide),h.tiny⟩
theorem au.setCells{g:Nat}:∀(vs:List KI) (o:Nat) {w:KH},au w g t n->au (w.setCells g o vs) g t n/\ak t w (w.setCells g o vs)
 | [],_,_,h=>⟨h,ak.refl _ _⟩
 | v :: r,o,_,h=>by
  rw[World.setCells];have:=au.setCells r (o+1) (h.set (o:=o) v);exact⟨this.1,(h.same (o:=o) v).trans this.2⟩
theorem Below.setCells'{B g:Nat}(c:B<=g):∀(vs:List KI) (o:Nat) {a w:KH},Below B a w->Below B a (w.setCells g o vs)
 | [],_,_,_,h=>h
 | v :: r,o,_,_,h=>by
  rw[World.setCells];exact Below.setCells' c r (o+1) (h.setCell (p:=⟨g,o,none⟩) c v)
structure rE (M:Nat) (w wr:KH) (rb ob:Nat) (a:KG) (cap:Nat) (bs:List UInt8) (p:Nat) (cost:Int) (v:KI) (L:List Xq):Prop where
 rd:Rd wr rb a cap bs p
 kb:Xj rb (rb+1) w wr
 row:au wr ob 77 2
 c0:wr.cell? ⟨ob,0,none⟩=some (.int .i64 cost)
 c1:wr.cell? ⟨ob,1,none⟩=some v
 stw:StW wr v L
 tiny:∀s∈L,s.TinyN M
theorem dM.store{cost:Int}{g j:Nat}{b c:KG}{d e:Nat}(h:dM M w wr rb ob sb a cap bs p cost (.slice (some ⟨g,0,none⟩) L.length j) L xs k (.slice b s.asks.length d) (.slice c s.cases.length e) s):
  rE M w (wr.setCells g (k*8) (s.cells b d c e)) rb ob a cap bs p cost (.slice (some ⟨g,0,none⟩) L.length j) (L.set k s):=by
 have N:=h.kl;have O:=h.len;rcases h.own.2 with⟨f,_⟩|⟨P,Q,A,f,B,C,D,_,E,_⟩
 ·simp at f
 simp only[JJ,JI,Kv,and_true,true_and] at f;obtain⟨rfl,rfl⟩:=f;have t:au wr g 83 (j*8):=⟨A,C,E⟩;have l:=au.setCells (s.cells b d c e) (k*8) t;have m:=h.row.eF l.2 (by decide);have v:Below w.heap.size wr (wr.setCells g (k*8) (s.cells b d c e)):=Below.setCells' B _ _ (Below.refl _ _);obtain⟨R,F⟩:=h.st.rd0;obtain⟨x,y,_⟩:=l.1;refine⟨h.st.rd.below F v h.st.kb.size,h.st.kb.below v,m.1,(m.2 0).trans h.c0,(m.2 1).trans h.c1,⟨some ⟨g,0,none⟩,j,by rw[Ka],by rw[Ka];exact D,fun i n=>?_⟩,fun G H=>?_⟩
 ·rw[Ka] at n;by_cases f:i=k
  ·subst f;refine⟨g,0,x,_,s.cells b d c e,rfl,y, ?_, ?_, ?_⟩
   ·rw[JA];exact Jc wr g (i*8) (s.cells b d c e) (t.row.there (by show i*8+8<=j*8;omega))
   ·have q:(L.set i s).getD i Xq.zero=s:=by simp[List.getD,n]
    rw[q];exact (iw.step ⟨b,d,c,e,rfl,h.st.asks,h.st.cases⟩).same l.2 (by decide) (by decide)
   ·exact iw.mU ⟨b,d,c,e,rfl,h.st.asks,h.st.cases⟩
  ·have r:=(h.oth i n f).1;have I:(jZ xs i).length=8:=by obtain⟨_,_,_,_,J,_⟩:=r;rw[J];rfl
   refine⟨g,0,x,_,jZ xs i,rfl,y, ?_, ?_,r.mU⟩
   ·refine Jo (oh h.own i) g (k*8) _ (.inr ?_);show 0+i*8+ (jZ xs i).length<=k*8\/k*8+8<=0+i*8;rw[I];omega
   ·have q:(L.set k s).getD i Xq.zero=L.getD i Xq.zero:=by simp[List.getD,Ne.symm f]
    rw[q];exact r.step.same l.2 (by decide) (by decide)
 ·rcases List.mem_or_eq_of_mem_set H with K|rfl
  ·exact h.tiny G K
  ·exact h.st.tiny
theorem rE.ends{b:Nat}{d t:Nat}{cost:Int}{e:Ending}(h:rE M A0 wr rb ob a cap bs d cost v L)(f:au wr b 77 2)(i:w.heap.size<=b)(c:K_ w A0){n:Nat}(q:Rd w rb a cap bs n)
 (r:e= .returned (.agg #[.int .i64 cost,v])) (s:p<=d) (h2:d<=p+t) (x:L.length<=21) (y: -1000<=cost/\cost<=1000):GQ M w ((wr.setCell ⟨b,0,none⟩ (.int .i64 cost)).setCell ⟨b,1,none⟩ v) rb a cap bs p t e:=by
 have A:=f.same (o:=0) (.int .i64 cost);have B:=(f.set (o:=0) (.int .i64 cost)).same (o:=1) v;have C:=A.trans B;have j:Below w.heap.size wr ((wr.setCell ⟨b,0,none⟩ (.int .i64 cost)).setCell ⟨b,1,none⟩ v):=((Below.refl _ _).setCell (p:=⟨b,0,none⟩) i _).setCell (p:=⟨b,1,none⟩) i _;have k:Xj rb (rb+1) w wr:=⟨h.kb.os.trans c.os,h.kb.tape.trans c.tape,h.kb.output.trans c.output,Jb c.size h.kb.size,fun l m D=>(h.kb.block l (I_ m c.size) D).trans (c.block l m)⟩;exact⟨cost,v,L,d,r,s,h2,x,y,h.tiny,h.stw.same C (by decide) (by decide) (by decide),h.rd.below q j k.size,k.below j⟩
theorem dM.made{b:KH}{p0:Nat}{cost:Int}{d e:KG}{f h:Nat}(D:Rd b rb a cap bs p)(E:Rd A0 rb a cap bs p0)(x:Xj rb (rb+1) A0 b)(F:A0.heap.size<=ob)(m:au b ob 77 2)
 (G:b.cell? ⟨ob,0,none⟩=some (.int .i64 cost)) (c1:b.cell? ⟨ob,1,none⟩=some v) (own:b.ownsRow A0.heap.size 83 8 v L.length xs) (i:dN b A0.heap.size xs L) (j:k<L.length) (y:∀s∈L,s.TinyN M) (A:s=L.getD k Xq.zero) (n:jZ xs k=s.cells d f e h):
  dM M A0 (b.alloc (.cells #[.slice d s.asks.length f,.int .i64 s.on,.slice e s.cases.length h,.int .i64 s.els,.int .i64 s.fall,.bool s.fin,.bool s.bad,.string s.give] 83)) rb ob b.heap.size a cap bs p cost v L xs k (.slice d s.asks.length f) (.slice e s.cases.length h) s:=by
 have c:K_ b (b.alloc (.cells #[.slice d s.asks.length f,.int .i64 s.on,.slice e s.cases.length h,.int .i64 s.els,.int .i64 s.fall,.bool s.fin,.bool s.bad,.string s.give] 83)):=ag _ _;have H:s.TinyN M:=y s (by rw[A];simp[List.getD,j]);have B:=i.each k j;rw[n,<-A] at B;obtain⟨K,N,O,P,l,I,J⟩:=B;simp only[Xq.cells,List.cons.injEq,JJ,true_and,and_true] at l;obtain⟨⟨rfl,rfl⟩,rfl,rfl⟩:=l;refine⟨⟨D.kept c,⟨p0,E⟩,x.size,x.eX c,df.copied b s d f e h,aj I c,aj J c,H⟩,F,m.kept c,(c.cell m.lt).trans G,(c.cell m.lt).trans c1,aj own c,fun l=>?_,i.len,j,fun q r C=>⟨(i.each q r).same (u:=90) (ak.aC c) (by decide) (by decide),fun t w=>?_,fun t w=>?_⟩,y⟩
 ·have:=(own.lt _ l).2;omega
 ·have:=(i.apart q k r j C).1 t w;rw[n] at this;exact this
 ·have:=(i.apart q k r j C).2 t w;rw[n] at this;exact this
theorem rE.made{cost:Int}(c:Rd wr rb a cap bs p)(d:Xj rb (rb+1) A0 wr)(e:au wr ob 77 2)
 (f:wr.cell? ⟨ob,0,none⟩=some (.int .i64 cost)) (c1:wr.cell? ⟨ob,1,none⟩=some v) (own:wr.ownsRow A0.heap.size 83 8 v L.length xs) (b:dN wr A0.heap.size xs L) (h:∀s∈L,s.TinyN M):rE M A0 wr rb ob a cap bs p cost v L:=
 ⟨c,d,e,f,c1,StW.fQ own b.packed b.mU,h⟩
theorem sI{a:KH}(cs:List Int)(k:Xj rb (rb+1) (w.alloc (.cells (cs.map (Value.int .i64)).toArray t)) a)(e:rb<w.heap.size)(q:Nat)(b:q<cs.length)(d:∀c∈cs, -1000<=c/\c<=1000):∃c,a.cell? ⟨w.heap.size,q,none⟩=some (.int .i64 c)/\ -1000<=c/\c<=1000:=by
 refine⟨cs[q], ?_,d _ (Ji b)⟩;rw[k.cell (by simp) (by omega),World.cell?_alloc_mark];simp[b]
theorem in64_wrap64(x:Int):In64 (wrap64 x):=by
 unfold In64 wrap64;omega
theorem sG(w:KH)(s:KC)(m:Int)(n:Nat)(a:m= (n:Int))(b:n<=1000)(c:s.size<=100):
  Calls prog 96 #[.string s,.int .i64 m] w fun e w'=>(∃t:KC,e= .returned (.string t)/\t.size<=n*s.size)/\w'=w:=by
 rw[a];exact zV w s n b c
theorem uw(w:KH)(t:TypeId)(cs:List Int)(q:Nat)(a:q<cs.length)(b:∀c∈cs, -1000<=c/\c<=1000):∃c,(w.alloc (.cells (cs.map (Value.int .i64)).toArray t)).cell? ⟨w.heap.size,q,none⟩=some (.int .i64 c)/\ -1000<=c/\c<=1000:=by
 refine⟨cs[q], ?_,b _ (Ji a)⟩;rw[World.cell?_alloc_mark];simp[a]
theorem tX{g H:Nat}(h:v.ownBlock=some g\/g=H):(Value.slice (some ⟨g,0,none⟩) n cap).ownBlock=v.ownBlock\/(Value.slice (some ⟨g,0,none⟩) n cap).ownBlock=some H:=by
 rcases h with h|rfl
 ·exact .inl h.symm
 ·exact .inr rfl
theorem pg{a:KH}(cs:List KC)(k:Xj rb (rb+1) (w.alloc (.cells (cs.map Value.string).toArray t)) a)(e:rb<w.heap.size)(q:Nat)(b:q<cs.length)(d:∀c∈cs,c.size<=300):∃c,a.cell? ⟨w.heap.size,q,none⟩=some (.string c)/\c.size<=300:=by
 refine⟨cs[q], ?_,d _ (Ji b)⟩;rw[k.cell (by simp) (by omega),World.cell?_alloc_mark];simp[b]
theorem pJ(w:KH)(t:TypeId)(cs:List KC)(q:Nat)(a:q<cs.length)(b:∀c∈cs,c.size<=300):∃c,(w.alloc (.cells (cs.map Value.string).toArray t)).cell? ⟨w.heap.size,q,none⟩=some (.string c)/\c.size<=300:=by
 refine⟨cs[q], ?_,b _ (Ji a)⟩;rw[World.cell?_alloc_mark];simp[a]
structure OSt (W wr:KH) (rb:Nat) (a:KG) (cap:Nat) (bs:List UInt8) (p:Nat) (v:KI) (l:List KC):Prop where
 rd:Rd wr rb a cap bs p
 rd0:∃p0,Rd W rb a cap bs p0
 kb:Xj rb (rb+1) W wr
 own:wr.ownsRow W.heap.size 9 1 v l.length (l.map Value.string)
 sz:∀x∈l,x.size<=300
section
variable {W wr w' : KH} {rb : Nat} {a : KG} {cap : Nat} {bs : List UInt8} {p p' : Nat} {v : KI} {l : List KC}
theorem OSt.drawn(h:OSt W wr rb a cap bs p v l)(c:Rd w' rb a cap bs p')(k:Xj rb (rb+1) wr w'):OSt W w' rb a cap bs p' v l:=
 ⟨c,h.rd0,h.kb.trans k,aH h.own (k.sameKind h.rd) (by decide),h.sz⟩
theorem OSt.kept(h:OSt W wr rb a cap bs p v l)(k:K_ wr w'):OSt W w' rb a cap bs p v l:=h.drawn (h.rd.kept k) (.aC k)
theorem OSt.push{x:KC}(h:OSt W wr rb a cap bs p v l)(e:K_ wr w1)(f:w2.ownsRow W.heap.size 9 1 v' (l.length+1) (l.map Value.string++ [.string x]))(i:w1.grownBy w2 v.ownBlock)(j:x.size<=300):OSt W w2 rb a cap bs p v' (l++ [x]):=by
 have b:=h.kept e;have d:Below W.heap.size w1 w2:=(Below.refl _ _).grown i b.kb.size (fun k m=>(b.own.lt k m).1);obtain⟨q,n⟩:=h.rd0;refine⟨b.rd.below n d b.kb.size,h.rd0,b.kb.below d,by simpa using f,fun y c=>?_⟩;simp only[Jh,Jg] at c;rcases c with c | rfl
 ·exact h.sz y c
 ·exact j
theorem OSt.made{p0:Nat}(c:Rd W rb a cap bs p0)(h:Rd wr rb a cap bs p)(k:Xj rb (rb+1) W wr):OSt W (wr.alloc (.cells #[] 9)) rb a cap bs p (.slice (some ⟨wr.heap.size,0,none⟩) 0 0) []:=by
 have b:K_ wr (wr.alloc (.cells #[] 9)):=ag _ _;exact⟨h.kept b,⟨p0,c⟩,k.eX b,bJ (Jz wr #[] 0 (IZ _) (Ja _) rfl) k.size,fun x e=>by simp at e⟩
end
section
variable {W wr w' : KH} {rb : Nat} {a : KG} {cap : Nat} {bs : List UInt8} {p p' : Nat} {v : KI} {l : List KC}
theorem eD.take{a:KG}{l:List KC}(h:eD w t a l)(n:Nat):eD w t a (l.take n):=by
 rcases h with rfl|⟨b,c,d,e,f,j⟩
 ·exact .inl (by simp)
 ·refine .inr ⟨b,c,d,e,f,fun i k=>?_⟩;rw[Jt] at k;rw[j i (by omega)];simp[List.getD,(by omega:i<n)]
end
theorem zh{W:KH}(k:K_ w W)(d:w.heap.size<=rb)(h:Xj rb (rb+1) W w'):K_ w w':=
 ⟨h.os.trans k.os,h.tape.trans k.tape,h.output.trans k.output,Jb k.size h.size,fun i c=>(h.block i (I_ c k.size) (.inl (by omega))).trans (k.block i c)⟩
def mK(w:KH)(a:KG)(l:List KC):Prop:=
 l=[]\/∃b o cur fr,a=some ⟨b,o,none⟩/\w.heap[b]? =some (Obj.cells cur 9 fr)/\∀i,i<l.length->w.cell? ⟨b,o+i,none⟩=some (.string (l.getD i ByteArray.empty))
variable {a : KG} {u : TypeId} {w w' : KH}
theorem mK.same{l:List KC}(h:mK w a l)(k:ak u w w')(i:9≠u):mK w' a l:=by
 rcases h with h|⟨b,o,c,d,j,e,m⟩
 ·exact .inl h
 ·have f:=k b c _ d i e;exact .inr ⟨b,o,c,d,j,f,fun n p=>by rw[Jl (w:=w) (f.trans e.symm)];exact m n p⟩
theorem mK.strs{l:List KC}(h:mK w a l):Strs w a l:=by
 rcases h with rfl|⟨c,o,j,k,d,e,f⟩
 ·intro i b;simp at b
 ·exact fun i b=>⟨c,o,d,aN e,f i b⟩
theorem eD.g{l:List KC}(h:eD w 9 a l):mK w a l:=by
 rcases h with h|⟨b,c,d,e,f,i⟩
 ·exact .inl h
 ·exact .inr ⟨b,0,c,d,e,f,fun j k=>by rw[JA];exact i j k⟩
variable {n : Nat}
theorem mK.tail{b o:Nat}{l:List KC}{c:Array KI}{d:Nat×Nat}(e:w.heap[b]? =some (Obj.cells c 9 d))(f:∀i,i<l.length->w.cell? ⟨b,o+i,none⟩=some (.string (l.getD i ByteArray.empty)))(j:l.drop n≠[]->a=some ⟨b,o+n,none⟩):mK w a (l.drop n):=by
 by_cases h:l.drop n=[]
 ·exact .inl h
 ·refine .inr ⟨b,o+n,c,d,j h,e,fun i k=>?_⟩;rw[List.length_drop] at k;have:=f (n+i) (by omega);rw[Nat.add_assoc,this];simp[List.getD,List.getElem?_drop]
def GStep(w:KH)(cs:List KI)(s:Xq):Prop:=∃aa ca ac cc,cs=s.cells aa ca ac cc/\mK w aa s.asks/\nK w 177 ac s.cases/\s.asks.length<=ca
variable {s : Xq}
theorem GStep.same{cs:List KI}(h:GStep w cs s)(k:ak u w w')(a:9≠u)(h2:177≠u):GStep w' cs s:=by
 obtain⟨b,c,d,e,f,i,j,l⟩:=h;exact⟨b,c,d,e,f,i.same k a,j.same k h2,l⟩
theorem ky.g{cs:List KI}(h:ky w 9 177 cs s):GStep w cs s:=by
 obtain⟨a,b,c,d,e,f,i,j⟩:=h;exact⟨a,b,c,d,e,f.g,i,j⟩
def cB(w:KH)(v:KI)(L:List Xq):Prop:=
 ∃a cap,v= .slice a L.length cap/\L.length<=cap/\∀i,i<L.length->∃b o cur fr cs,a=some ⟨b,o,none⟩/\w.heap[b]? =some (Obj.cells cur 83 fr)/\w.rangeAt b (o+i*8) cs/\GStep w cs (L.getD i Xq.zero)/\jK cs
variable {L : List Xq} {v : KI}
theorem cB.same(h:cB w v L)(k:ak u w w')(i:83≠u)(l:9≠u)(h2:177≠u):cB w' v L:=by
 obtain⟨a,m,n,p,g⟩:=h;refine⟨a,m,n,p,fun q r=>?_⟩;obtain⟨b,o,c,d,s,t,e,x,y,A⟩:=g q r;have f:=k b c _ d i e;exact⟨b,o,c,d,s,t,f,fun j B C=>by rw[Jl (w:=w) (f.trans e.symm)];exact x j B C,y.same k l h2,A⟩
theorem StW.g(h:StW w v L):cB w v L:=by
 obtain⟨a,c,e,d,g⟩:=h;refine⟨a,c,e,d,fun i f=>?_⟩;obtain⟨b,o,j,k,l,m,n,p,q,r⟩:=g i f;exact⟨b,o,j,k,l,m,n,p,q.g,r⟩
theorem cB.Ck(h:cB w v L):∃a b,v= .slice a L.length b/\L.length<=b/\jE w a L:=by
 obtain⟨a,b,e,f,g⟩:=h;refine⟨a,b,e,f,fun i j=>?_⟩;obtain⟨k,o,y,A,B,l,m,n,⟨p,q,r,s,rfl,t,x,C⟩,d⟩:=g i j;refine⟨k,o,p,q,r,s,l,aN m,n,t.strs,x.cases,fun c=>?_,fun c=>?_⟩
 ·subst c;exact d _ _ (by simp[Xq.cells])
 ·subst c;exact d _ _ (by simp[Xq.cells])
variable {cap : Nat}
theorem cB.steps(h:cB w (.slice a n cap) L):Steps w a L:=by
 obtain⟨t,v,e,x,g⟩:=h;simp only[JJ] at e;obtain⟨rfl,rfl,rfl⟩:=e;intro i c;obtain⟨b,o,y,A,B,d,f,j,⟨k,l,m,p,rfl,q,r,s⟩,C⟩:=g i c;exact⟨b,o,_,d,aN f,j,k,l,m,p,rfl,q.strs,r.cases,s⟩
theorem cB.slice(h:cB w v L):∃a cap,v= .slice a L.length cap:=let ⟨a,cap,e,_⟩:=h;⟨a,cap,e⟩
def cK(w:KH)(xs:List KI)(l:List Qz):Prop:=
 xs.length=l.length*3/\∀i,i<l.length->∃v,(xs.drop (i*3)).take 3=[.string (l.getD i Qz.zero).name,.int .i64 (l.getD i Qz.zero).cost,v]/\cB w v (l.getD i Qz.zero).steps
theorem cK.nil(w:KH):cK w [] []:=⟨rfl,fun i a=>by simp at a⟩
variable {xs : List KI}
theorem cK.same{l:List Qz}(h:cK w xs l)(k:ak u w w')(a:83≠u)(b:9≠u)(h2:177≠u):cK w' xs l:=
 ⟨h.1,fun i c=>by obtain⟨v,d,g⟩:=h.2 i c;exact⟨v,d,g.same k a b h2⟩⟩
theorem cK.snoc{l:List Qz}{d:Qz}(h:cK w xs l)(f:cB w v d.steps):cK w (xs++ [.string d.name,.int .i64 d.cost,v]) (l++ [d]):=by
 refine⟨by simp[h.1];omega,fun i c=>?_⟩;rw[JH] at c;simp only[JK,List.length_nil] at c;by_cases e:i<l.length
 ·have a:(l++ [d]).getD i Qz.zero=l.getD i Qz.zero:=by simp[List.getD,JU e]
  have b:((xs++ [.string d.name,.int .i64 d.cost,v]).drop (i*3)).take 3= (xs.drop (i*3)).take 3:=by
   rw[List.drop_append_of_le_length (by rw[h.1];omega),List.take_append_of_le_length (by rw[List.length_drop,h.1];omega)]
  rw[a,b];exact h.2 i e
 ·obtain rfl:i=l.length:=by omega
  have a:(l++ [d]).getD l.length Qz.zero=d:=by simp[List.getD]
  have b:((xs++ [.string d.name,.int .i64 d.cost,v]).drop (l.length*3)).take 3=[.string d.name,.int .i64 d.cost,v]:=by
   rw[<-h.1,List.drop_left]
   rfl
  rw[a,b];exact⟨v,rfl,f⟩
def qI(w:KH)(a:KG)(l:List Qz):Prop:=
 ∀i,i<l.length->∃b o sa sc,a=some ⟨b,o,none⟩/\b<w.heap.size/\w.rangeAt b (o+i*3) ((l.getD i Qz.zero).cells sa sc)/\jE w sa (l.getD i Qz.zero).steps
theorem qI.kept{l:List Qz}(h:qI w a l)(k:K_ w w'):qI w' a l:=by
 intro i c;obtain⟨d,o,e,f,j,b,m,n⟩:=h i c;exact⟨d,o,e,f,j,I_ b k.size,k.range b m,n.kept k⟩
def aX(w:KH)(v:KI)(l:List Qz):Prop:=
 ∃a cap,v= .slice a l.length cap/\l.length<=cap/\((a=none->cap=0)/\∀ad,a=some ad->ad.spot=none)/\∀i,i<l.length->∃b o cur fr u,a=some ⟨b,o,none⟩/\w.heap[b]? =some (Obj.cells cur 79 fr)/\
  w.rangeAt b (o+i*3) [.string (l.getD i Qz.zero).name,.int .i64 (l.getD i Qz.zero).cost,u]/\cB w u (l.getD i Qz.zero).steps
theorem aX.same{l:List Qz}(h:aX w v l)(k:ak u w w')(i:79≠u)(j:83≠u)(m:9≠u)(h2:177≠u):aX w' v l:=by
 obtain⟨a,n,p,q,r,g⟩:=h;refine⟨a,n,p,q,r,fun s t=>?_⟩;obtain⟨b,o,c,d,x,y,e,A,B⟩:=g s t;have f:=k b c _ d i e;exact⟨b,o,c,d,x,y,f,fun C D E=>by rw[Jl (w:=w) (f.trans e.symm)];exact A C D E,B.same k j m h2⟩
theorem aX.kept{l:List Qz}(h:aX w v l)(k:K_ w w'):aX w' v l:=h.same (u:=25) (.aC k) (by decide) (by decide) (by decide) (by decide)
theorem aX.slice{l:List Qz}(h:aX w v l):∃a cap,v= .slice a l.length cap/\l.length<=cap/\((a=none->cap=0)/\∀ad,a=some ad->ad.spot=none):=let ⟨a,cap,e,h1,h2,_⟩:=h;⟨a,cap,e,h1,h2⟩
theorem aX.FQ{l:List Qz}(h:aX w (.slice a n cap) l):qI w a l:=by
 obtain⟨r,s,e,t,v,g⟩:=h;simp only[JJ] at e;obtain⟨rfl,rfl,rfl⟩:=e;intro i c;obtain⟨b,o,x,y,u,d,f,j,k⟩:=g i c;obtain⟨m,p,rfl,_,q⟩:=k.Ck;exact⟨b,o,m,p,d,aN f,j,q⟩
theorem aX.nodes{l:List Qz}(h:aX w (.slice a n cap) l):bY w a l:=by
 obtain⟨q,r,e,s,t,g⟩:=h;simp only[JJ] at e;obtain⟨rfl,rfl,rfl⟩:=e;intro i d;obtain⟨b,o,v,x,u,f,j,k,c⟩:=g i d;obtain⟨m,p,rfl⟩:=c.slice;exact⟨b,o,_,f,aN j,k,m,p,rfl,c.steps⟩
theorem aX.fQ{base:Nat}{l:List Qz}(a:w.ownsRow base 79 3 v l.length xs)(f:cK w xs l):aX w v l:=by
 rcases a.2 with⟨rfl,h⟩|⟨g,k,m,rfl,s,n,p,_,_,_⟩
 ·exact⟨none,0,by rw[h],by omega,⟨fun _=>rfl,fun _ e=>by cases e⟩,fun i b=>by omega⟩
 ·refine⟨_,k,rfl,p,⟨fun e=>by simp at e,fun _ e=>by cases e;rfl⟩,fun i b=>?_⟩;obtain⟨u,e,q⟩:=f.2 i b;refine⟨g,0,m,_,u,rfl,n,fun j x c=>?_,q⟩;have r:j<3:=by have:=(Je.1 c).1;simpa using this
  have d:((xs.drop (i*3)).take 3)[j]? =some x:=by rw[e];exact c
  rw[List.getElem?_take,Kg r,List.getElem?_drop] at d;have:=a.cells (g:=g) rfl _ _ d;rw[JL] at this;rw[JA] at this⊢;exact this
theorem aX.nil(w:KH):aX w (.slice none 0 0) []:=⟨none,0,rfl,IZ _,⟨fun _=>rfl,fun _ e=>by cases e⟩,fun i b=>by simp at b⟩
structure Qz.TinyN (m:Nat) (d:Qz):Prop where
 name:d.name.size<=300
 cost: -1000<=d.cost/\d.cost<=1000
 steps:d.steps.length<=21
 each:∀s∈d.steps,s.TinyN m
theorem Qz.TinyN.fits{m:Nat}{d:Qz}(h:d.TinyN m)(a:m<=1000):d.Fits:=by
 have c:=h.name;have e:=h.steps;exact⟨by unfold maxLen;omega,mD h.cost,by unfold maxLen;omega,fun s b=>(h.each s b).fits a⟩
theorem Qz.TinyN.mono{m:Nat}{d:Qz}(h:d.TinyN m)(b:m<=n):d.TinyN n:=⟨h.name,h.cost,h.steps,fun s e=>(h.each s e).mono b⟩
def lC(lo:Nat)(v:KI)(L:List Qz):Prop:=0<L.length->∀g n c,v= .slice (some g) n c->lo<=g.block
theorem lC.mono{a b:Nat}{L:List Qz}(h:lC a v L)(d:b<=a):lC b v L:=fun e g n c i=>Jb d (h e g n c i)
theorem lC.fQ{base:Nat}{L:List Qz}(h:w.ownsRow base 79 3 v n xs):lC base v L:=fun _ g n c e=>(h.lt g.block (by rw[e];rfl)).1
def kM(M N:Nat)(w w':KH)(rb:Nat)(a:KG)(cap:Nat)(bs:List UInt8)(p t:Nat)(e:Ending):Prop:=
 ∃(v:KI) (L:List Qz) (p':Nat),e= .returned (.agg #[v])/\p<=p'/\p'<=p+t/\L.length<=N/\(∀d∈L,d.TinyN M)/\aX w' v L/\Rd w' rb a cap bs p'/\Xj rb (rb+1) w w'/\lC w.heap.size v L
theorem Tryz.lL :(prog.info? 79).map (fun i=>(i.zero,i.size,i.bytes))=some (some (.agg #[.string ⟨#[]⟩,.int .i64 0,.slice none 0 0]),3,48):=by kernel_rfl
theorem Tryz.fC :(prog.info? 25).map (·.size)=some 1:=by kernel_rfl
structure fD (m:Nat) (w wr:KH) (rb wb:Nat) (a:KG) (cap:Nat) (bs:List UInt8) (p:Nat) (v:KI) (L:List Qz) (xs:List KI):Prop where
 rd:Rd wr rb a cap bs p
 rd0:∃p0,Rd w rb a cap bs p0
 wbl:w.heap.size<=wb
 kb:Xj rb (rb+1) w wr
 row:au wr wb 25 1
 c0:wr.cell? ⟨wb,0,none⟩=some v
 own:wr.ownsRow w.heap.size 79 3 v L.length xs
 pack:cK wr xs L
 tiny:∀d∈L,d.TinyN m
variable {bs : List UInt8} {mN p rb wb : Nat} {wr : KH}
theorem fD.rbl{L:List Qz}(h:fD mN w wr rb wb a cap bs p v L xs):rb<w.heap.size:=let ⟨_,h0⟩:=h.rd0;h0.row.lt
theorem fD.drawn{c:Nat}{L:List Qz}(h:fD mN w wr rb wb a cap bs p v L xs)(e:Rd w' rb a cap bs c)(k:Xj rb (rb+1) wr w'):fD mN w w' rb wb a cap bs c v L xs:=by
 have d:=k.sameKind h.rd;have:=h.rbl;have:=h.wbl;exact⟨e,h.rd0,h.wbl,h.kb.trans k,h.row.but k (by omega),(k.cell h.row.lt (by omega)).trans h.c0,aH h.own d (by decide),h.pack.same d (by decide) (by decide) (by decide),h.tiny⟩
theorem fD.kept{L:List Qz}(h:fD mN w wr rb wb a cap bs p v L xs)(k:K_ wr w'):fD mN w w' rb wb a cap bs p v L xs:=h.drawn (h.rd.kept k) (.aC k)
variable {w1 : KH}
theorem fD.made{p0:Nat}(c:Rd w rb a cap bs p0)(h:Rd w1 rb a cap bs p)(k:Xj rb (rb+1) w w1):
  fD mN w (w1.alloc (.cells #[.slice none 0 0] 25)) rb w1.heap.size a cap bs p (.slice none 0 0) [] []:=by
 have e:=X_ w1 #[.slice none 0 0] 25;have b:K_ w1 (w1.alloc (.cells #[.slice none 0 0] 25)):=ag _ _;exact⟨h.kept b,⟨p0,c⟩,k.size,k.eX b,au.made w1 _ _,e 0 _ rfl,JP _ _ _ _,cK.nil _,fun s f=>by simp at f⟩
variable {w2 : KH}
theorem fD.fw{L:List Qz}(h:fD mN w wr rb wb a cap bs p v L xs)(f:K_ wr w1)(i:w1.grownBy w2 v.ownBlock):w2.cell? ⟨wb,0,none⟩=some v/\au w2 wb 25 1:=by
 have b:=h.kept f;have j:ak 79 w1 w2:=ak.aK b.own i;obtain⟨c,d,k⟩:=b.row;have e:=j wb c _ _ (by decide) d;exact⟨by rw[Jl (w:=w1) (e.trans d.symm)];exact b.c0,c,e,k⟩
theorem fD.push{c u:KI}{L:List Qz}{d:Qz}(h:fD mN w wr rb wb a cap bs p v L xs)(k:K_ wr w1)(n:cB w1 u d.steps)(q:d.TinyN mN)
 (r:w2.ownsRow w.heap.size 79 3 c (L.length+1) (xs++ [.string d.name,.int .i64 d.cost,u])) (f:w1.grownBy w2 v.ownBlock):fD mN w (w2.setCell ⟨wb,0,none⟩ c) rb wb a cap bs p c (L++ [d]) (xs++ [.string d.name,.int .i64 d.cost,u]):=by
 have b:=h.kept k;have i:ak 79 w1 w2:=ak.aK b.own f;have j:au w2 wb 25 1:=(h.fw k f).2;have l:=j.same (o:=0) c;have m:Below w.heap.size w1 (w2.setCell ⟨wb,0,none⟩ c):=((Below.refl _ _).grown f b.kb.size (fun s i=>(b.own.lt s i).1)).setCell h.wbl c;obtain⟨x,t⟩:=h.rd0;refine⟨b.rd.below t m b.kb.size,h.rd0,h.wbl,b.kb.below m,j.set _,aS j.row (by omega) _, ?_, ?_,fun y e=>?_⟩
 ·have:=aH r l (by decide);simpa using this
 ·exact ((b.pack.snoc n).same i (by decide) (by decide) (by decide)).same l (by decide) (by decide) (by decide)
 ·simp only[Jh,Jg] at e;rcases e with e|rfl
  ·exact h.tiny y e
  ·exact q
theorem fD.web{L:List Qz}(h:fD mN w wr rb wb a cap bs p v L xs):aX wr v L:=aX.fQ h.own h.pack
theorem mi(w:KH)(n:KC)(c:Int)(u:KI):∀j x,([.string n,.int .i64 c,u]:List KI)[j]? =some x->(w.alloc (.cells #[.string n,.int .i64 c,u] 79)).cell? ((⟨w.heap.size,0,none⟩:Addr).add j)=some x:=fun j x b=>by
 rw[JL];exact X_ w #[.string n,.int .i64 c,u] 79 j x b
theorem mI(n:KC)(c:Int)(a:KG)(m k:Nat):∀u∈([.string n,.int .i64 c,.slice a m k]:List KI),u.oneCell'=true:=fun u b=>by
 simp only[JN,JO,or_false] at b;rcases b with rfl | rfl | rfl <;> rfl
theorem xZ.g(h:xZ w v L):cB w v L:=by
 obtain⟨base,e,b,c,d⟩:=h;exact (StW.fQ b c d).g
variable {M : Nat}
theorem fD.ends{N:Nat}{c:KH}{f t:Nat}{L:List Qz}{i:KH}{e:Ending}(h:fD M i c rb wb a cap bs f v L xs){d:Nat}(n:au c d 25 1)(q:w.heap.size<=d)(b:K_ w i){r:Nat}(s:Rd w rb a cap bs r)
 (x:e= .returned (.agg #[v])) (y:p<=f) (h2:f<=p+t) (A:L.length<=N):kM M N w (c.setCell ⟨d,0,none⟩ v) rb a cap bs p t e:=by
 have B:=n.same (o:=0) v;have j:Below w.heap.size c (c.setCell ⟨d,0,none⟩ v):=(Below.refl _ _).setCell (p:=⟨d,0,none⟩) q _;have k:Xj rb (rb+1) w c:=⟨h.kb.os.trans b.os,h.kb.tape.trans b.tape,h.kb.output.trans b.output,Jb b.size h.kb.size,fun l m C=>(h.kb.block l (I_ m b.size) C).trans (b.block l m)⟩;exact⟨v,L,f,x,y,h2,A,h.tiny,h.web.same B (by decide) (by decide) (by decide) (by decide),h.rd.below s j k.size,k.below j,(lC.fQ h.own).mono b.size⟩
theorem tN(w:KH)(j:Nat)(a:KG)(r:Nat)(q:List UInt8)(p i n:Nat)(hR:Rd w j a r q p)(hp:p<=800000)(hi:i<=100000)(hn:n<=100000)(F:q.length<=2000):
  Calls prog 126 #[.pointer (some ⟨j,0,none⟩),.int .i64 (i:Int),.int .i64 (n:Int)] w fun e w'=>oP w w' j a r q p 100 e:=by
 have k0:K_ w (w.alloc (.cells #[.int .i64 0,.slice none 0 0] 77)):=ag _ _;have g5:Hid (Rd (w.alloc (.cells #[.int .i64 0,.slice none 0 0] 77)) j a r q p):=hR.kept k0;have g6:Hid (au (w.alloc (.cells #[.int .i64 0,.slice none 0 0] 77)) w.heap.size 77 2):=au.made w _ _;have o7:=hR.row.lt;have l0:=Kz hR;go_enter func126,ntmps126
 go_wp2_with fail
 refine (aI _ j a r q p _ 6 rfl g5.o (by omega) (by omega) F).mono ?_;rintro e w1 ⟨v1,rfl,l1,g7,g8⟩;have⟨g9,N⟩:=aD g7 g8;clear g7 g8 hR;have O:=Kz (ASt.made g5.o g9.o N.o (1+ (v1:Int)));go_wp2_with fail
 refine (aI _ j a r q (p+1) _ 10 rfl O.o.rd (by omega) (by omega) F).mono ?_;rintro e w2 ⟨v2,rfl,l2,h0,h1⟩;have c:=Kz (O.o.drawn h0 h1);have r2:=c.o.row.row.at (i:=0) (by omega);obtain⟨⟨_,q0⟩,h2⟩:=r2;have l3:=c.o.row.lt;clear h0 h1;go_upto_if 20 with fail
 go_cut [7] from 21 to 21 (fun s7 G=>Hu (w.alloc (.cells #[.int .i64 0,.slice none 0 0] 77)) w1.heap.size j a r q p s7 G)
 case first=>
  by_cases U:v2=0
  ·have e8:((v2:Int) == 0)=true:=by simp[U]
   go_wp2
   go_meet
   exact⟨20,rfl,by omega,c.o.cost⟩
  ·have e8:((v2:Int) == 0)=false:=by simpa using U
   go_wp2
   go_meet
   exact⟨_,rfl,by omega,c.o⟩
 case rest=>
  obtain⟨cost,rfl,d4,t⟩:=hcut;have k:=Kz t;clear t O c g9 N l1 l2 q0 h2 l3;go_wp2_with fail
  refine (aI _ j a r q (p+2) _ 4 rfl k.o.rd (by omega) (by omega) F).mono ?_;rintro e w4 ⟨v4,rfl,l4,b0,b1⟩;have D:=Kz (k.o.drawn b0 b1);clear b0 b1 k;go_upto_region 5 with fail
  go_cut [31] from 25 to 30 (fun l5 G=>∃(H:Bool) (p':Nat),l5= .bool H/\p+3<=p'/\p'<=p+4/\ASt (w.alloc (.cells #[.int .i64 0,.slice none 0 0] 77)) G j w1.heap.size a r q p' cost (.slice none 0 0) [] [])
  case first=>
   by_cases U:i=0
   ·have e8:((i:Int) == 0)=true:=by simp[U]
    clear U;go_wp2_with fail
    refine (aI _ j a r q (p+3) _ 3 rfl D.o.rd (by omega) (by omega) F).mono ?_;rintro e w5 ⟨v5,rfl,o8,h3,h4⟩;have h:=Kz (D.o.drawn h3 h4);clear h3 h4;go_wp2
    go_meet
    exact⟨_,p+4,rfl,by omega,by omega,h.o⟩
   ·have e8:((i:Int) == 0)=false:=by simpa using U
    go_wp2
    go_meet
    exact⟨_,p+3,rfl,by omega,by omega,D.o⟩
  case rest=>
   obtain⟨H,p5,rfl,l6,l7,t⟩:=hcut;have h:=Kz t;clear t D;go_upto_if 31 with fail
   go_cut [8] from 25 to 30 (fun s8 G=>IL (w.alloc (.cells #[.int .i64 0,.slice none 0 0] 77)) w1.heap.size j a r q p s8 G)
   case first=>
    cases H
    ·go_wp2
     go_meet
     exact⟨v4,cost,p5,rfl,by omega,d4,by omega,by omega,h.o⟩
    ·go_wp2
     go_meet
     exact⟨0,cost,p5,rfl,by omega,d4,by omega,by omega,h.o⟩
   case rest=>
    clear l6 l7 h d4 l4;obtain⟨V,cost,l8,rfl,o9,d4,l9,p0,t⟩:=hcut;have Q:=Kz t;clear t;go_wp2
    go_loopg [9] V (fun g x wr=>∃(l:Nat) (p':Nat) (h5:KI) (L:List Xq) (xs:List KI),x= .int .i64 (l:Int)/\l+g=V/\L.length=l/\p<=p'/\p'<=p+4+20*l/\ASt (w.alloc (.cells #[.int .i64 0,.slice none 0 0] 77)) wr j w1.heap.size a r q p' cost h5 L xs)
    case atStart=>exact⟨0,l8,_,[],[],rfl,by omega,rfl,l9,by omega,Q.o⟩
    case round=>
     clear Q;obtain⟨l,p7,h5,L,xs,rfl,hk,hL,p1,p2,t⟩:=hrel;obtain⟨A,rfl⟩:=ah wr;obtain⟨gO,rfl⟩:=ah gk;have⟨HO,e9⟩:=aD t hL;clear t hL;by_cases m0:(l:Int)<1+ (V:Int)-1
     ·have f0:=Kz (SSt.made HO.o.rd (els:=(l:Int)+1) (fall:= -1) (by omega) (by omega));have zO:j<A.heap.size:=HO.o.rd.row.lt;go_wp2_with fail
      refine (aI _ j a r q p7 _ 4 rfl f0.o.rd (by omega) (by omega) F).mono ?_;rintro e w8 ⟨a6,rfl,hq,h6,h7⟩;have b2:=Kz (f0.o.drawn h6 h7);clear h6 h7;go_wp2
      go_loopg [11] a6 (fun g x wr=>∃(R:KI) (s:Xq) (p':Nat),x= .int .i64 (g:Int)/\g<=a6/\p<=p'/\p'+2*g<=p7+1+2*a6/\s.asks.length+g<=a6/\s.cases=[]/\SSt A wr j A.heap.size a r q p' R (.slice none 0 0) s)
      case atStart=>exact⟨_,_,p7+1,rfl,IZ _,by omega,by omega,by simp,rfl,b2.o⟩
      case round=>
       clear f0 b2;obtain⟨R,s,p8,rfl,h8,h9,i0,d5,b3,t⟩:=hrel;have⟨v,a0⟩:=aD t b3;clear t b3;by_cases U:gk=0
       ·have d6:¬(0:Int)<(gk:Int):=by omega
        obtain⟨S,T,rfl⟩:=ax v.o.asks;obtain⟨wI,rfl⟩:=ah wr;have y0:=v.o.box.c0;have yz:=v.o.box.row.lt;have f2:s.asks.length<=20:=v.o.tiny.asks;obtain⟨M,hm⟩:=ah s.asks.length;rw[<-hm] at y0 d5 f2;have HM:=Kz hm;clear hm;go_upto_if 68 with fail
        go_cut [10,11] from 32 to 116 (fun b4 _ G=>∃(B:Xq) (R:KI) (p':Nat),b4= .pointer (some ⟨A.heap.size,0,none⟩)/\p<=p'/\p'<=p7+8/\B.cases=[]/\SSt A G j A.heap.size a r q p' R (.slice none 0 0) B)
        case first=>
         by_cases p3:(0:Int)<(M:Int)
         ·go_wp2_with fail
          refine (iO _ j a r q p8 M v.o.rd (by omega) (by omega) F).mono ?_;rintro e f ⟨v9,rfl,p4,b5,b6⟩;have c:=Kz (v.o.drawn b5 b6);have z2:=c.o.box.row.lt;obtain⟨⟨_,p6⟩,f1⟩:=c.o.box.cell (o:=1) (by omega);clear b5 b6;go_wp2
          go_meet
          exact⟨{s with on:=(v9:Int)},_,p8+1,rfl,by omega,by omega,a0.o,c.o.on (x:=(v9:Int)) (by omega)⟩
         ·go_wp2
          go_meet
          exact⟨s,_,p8,rfl,by omega,by omega,a0.o,v.o⟩
        case rest=>
         clear v a0 y0 yz d5 f2 HM h9 i0 U d6 h8;obtain⟨s,R,p9,rfl,m1,m2,b3,t⟩:=hcut;have⟨v,a0⟩:=aD t b3;clear t b3;go_wp2_with fail
         refine (aI _ j a r q p9 _ 3 rfl v.o.rd (by omega) (by omega) F).mono ?_;rintro e q1 ⟨q2,rfl,q3,i1,i2⟩;have b2:=Kz (v.o.drawn i1 i2);clear i1 i2 v;go_wp2
         go_loopg [13] q2 (fun g x wr=>∃(vc:KI) (B:Xq) (p':Nat),x= .int .i64 (g:Int)/\g<=q2/\p<=p'/\p'+2*g<=p9+1+2*q2/\B.cases.length+g<=q2/\SSt A wr j A.heap.size a r q p' R vc B)
         case atStart=>exact⟨_,s,p9+1,rfl,IZ _,by omega,by omega,by rw[a0.o];simp,b2.o⟩
         case round=>
          clear b2 a0;obtain⟨vc,B,a2,rfl,h8,q5,q6,d5,t⟩:=hrel;have v:=Kz t;clear t;by_cases U:gk=0
          ·have d6:¬(0:Int)<(gk:Int):=by omega
           obtain⟨ac,cc,rfl⟩:=ax v.o.cases;obtain⟨wJ,rfl⟩:=ah wr;have q7:B.cases.length<=20:=v.o.tiny.cases;go_wp2_with fail
           refine (aI _ j a r q a2 _ 3 rfl v.o.rd (by omega) (by omega) F).mono ?_;rintro e m3 ⟨b7,rfl,i3,b8,b9⟩;have c:=Kz (v.o.drawn b8 b9);have z2:=c.o.box.row.lt;obtain⟨⟨_,q4⟩,f4⟩:=c.o.box.cell (o:=4) (by omega);clear b8 b9 v;go_upto_if 103 with fail
           go_cut [10,13] from 32 to 116 (fun b4 _ G=>∃(s'':Xq),b4= .pointer (some ⟨A.heap.size,0,none⟩)/\SSt A G j A.heap.size a r q (a2+1) R (.slice ac B.cases.length cc) s'')
           case first=>
            by_cases d7:b7=0
            ·have m4:((b7:Int) == 0)=true:=by simp[d7]
             clear d7;go_wp2
             go_meet
             exact⟨_,rfl,c.o.fall (x:=(l:Int)+1) (by omega)⟩
            ·have m4:((b7:Int) == 0)=false:=by simpa using d7
             clear d7;go_wp2
             go_meet
             exact⟨B,rfl,c.o⟩
           case rest=>
            clear c q4 f4 z2 i3;obtain⟨s3,rfl,t⟩:=hcut;have k:=Kz t;clear t;go_wp2_with fail
            refine (aI _ j a r q (a2+1) _ 16 rfl k.o.rd (by omega) (by omega) F).mono ?_;rintro e m5 ⟨f3,rfl,m6,i4,i5⟩;have D:=Kz (k.o.drawn i4 i5);have z2:=D.o.box.row.lt;obtain⟨⟨_,q4⟩,f4⟩:=D.o.box.cell (o:=3) (by omega);clear i4 i5 k;go_upto_if 109 with fail
            go_cut [10] from 32 to 116 (fun b4 G=>∃(s'':Xq),b4= .pointer (some ⟨A.heap.size,0,none⟩)/\SSt A G j A.heap.size a r q (a2+2) R (.slice ac B.cases.length cc) s'')
            case first=>
             by_cases d8:f3=0
             ·have i6:((f3:Int) == 0)=true:=by simp[d8]
              clear d8;go_wp2
              go_meet
              exact⟨_,rfl,D.o.els (x:=0) (by omega)⟩
             ·have i6:((f3:Int) == 0)=false:=by simpa using d8
              clear d8;go_wp2
              go_meet
              exact⟨s3,rfl,D.o⟩
            case rest=>
             clear D q4 f4 z2 m6;obtain⟨m,rfl,t⟩:=hcut;have h:=Kz t;clear t;obtain⟨d9,e0,rfl⟩:=ax HO.o.own;have HA:=Kz (HO.o.drawn h.o.rd h.o.kb);obtain⟨aa,ca,a7,a8,rfl,i7,hT⟩:=h.o.cells;rw[i7] at h;have HT:=Kz hT;clear hT i7;have c0:=h.o.box.c0;have q8:=h.o.box.c1;have q9:=h.o.box.c2;have c3:=h.o.box.c3;have r0:=h.o.box.c4;have r1:=h.o.box.c5;have r3:=h.o.box.c6;have r4:=h.o.box.c7;have cz:=h.o.box.row.lt;have a1:=HA.o.c1;have az:=HA.o.row.lt;have m7:L.length<=3:=by have:=e9.o;omega
             have W:K_ wc (wc.alloc (.cells #[.slice aa m.asks.length ca,.int .i64 m.on,.slice a7 m.cases.length a8,.int .i64 m.els,.int .i64 m.fall,.bool m.fin,.bool m.bad,.string m.give] 83)):=ag _ _;have N:=Kz W;have f5:=Kz (HA.o.kept W).own;have e1:=(HA.o.kept W).kb.size;have c1:∀E u,(m.cells aa ca a7 a8)[E]? =some u->(wc.alloc (.cells #[.slice aa m.asks.length ca,.int .i64 m.on,.slice a7 m.cases.length a8,.int .i64 m.els,.int .i64 m.fall,.bool m.fin,.bool m.bad,.string m.give] 83)).cell? ((⟨wc.heap.size,0,none⟩:Addr).add E)=some u:=fun E u y=>by rw[JL];exact X_ wc #[.slice aa m.asks.length ca,.int .i64 m.on,.slice a7 m.cases.length a8,.int .i64 m.els,.int .i64 m.fall,.bool m.fin,.bool m.bad,.string m.give] 83 E u y
             have⟨m8,m9⟩:=aD c1 e1;obtain⟨ic,c2,c4,c5,c6⟩:=aM Tryz.jB;clear W c1 e1;go_wp2_with (at_builtin;refine wpList_append_own _ rfl (.tmp 112) (.tmp 114) 75 rfl (w.alloc (.cells #[.int .i64 0,.slice none 0 0] 77)).heap.size 83 ic _ 8 96 underlying75 c2 c4 c5 c6 rfl (by decide) (.slice d9 L.length e0) L.length xs rfl f5.o ⟨wc.heap.size,0,none⟩ 1 1 (m.cells aa ca a7 a8) rfl rfl m8.o (iF m aa ca a7 a8) (by unfold maxLen;omega) (by omega) m9.o ?_;intro X w2 I J _;have a3:=HA.o.fw N.o J;have z2:=a3.2.lt;obtain⟨⟨_,y2⟩,n0⟩:=a3.2.row.at (i:=1) (by omega);have f6:=Kz I;obtain⟨S,T,rfl⟩:=ax I;have f7:=Kz J;clear I J a3)
             go_roundg (gO-1)
             case measure=>omega
             case rel=>exact⟨l+1,a2+2,_,L++ [m],_,by go_num,by omega,by rw[JH,e9.o];rfl,by omega,by omega,HA.o.push N.o HT.o h.o.tiny (h.o.mU rfl rfl) f6.o f7.o⟩
          ·have d6:(0:Int)<(gk:Int):=by omega
           obtain⟨ac,cc,rfl⟩:=ax v.o.cases;have r5:B.cases.length<=20:=v.o.tiny.cases;have O:=Kz (v.o.kept (aG wr));have y2:=O.o.box.c2;have r6:=Kz v.o;clear v;obtain⟨M,hm⟩:∃M:Nat,M=V-l:=⟨_,rfl⟩;have r7:M<=3:=by omega
           have r8:IntKind.i64.wrap ((l:Int)+1)= (l:Int)+1:=by simp[IntKind.wrap,IntKind.bits,IntKind.signed];omega
           have i6:IntKind.i64.wrap (1+ (V:Int)-(l:Int))= (M:Int)+1:=by simp[IntKind.wrap,IntKind.bits,IntKind.signed];omega
           have r9:IntKind.i64.wrap (M:Int)= (M:Int):=by simp[IntKind.wrap,IntKind.bits,IntKind.signed];omega
           clear hm;go_upto_region 22 with fail
           refine Qk.region (by kernel_rfl) (fun w'=>w'.cell? ⟨A.heap.size,2,none⟩=some (.slice ac B.cases.length cc)) 20 y2 (fun b=>?_);refine ae 0 b ?_;refine ae 1 b ?_;refine ae 2 b ?_;refine ae 7 b ?_;refine Qk.take 8 [15,16,17,18,19,20] (v:= .int .i64 ((l:Int)+1)) (by (simp only[Kw,JW,JX];rfl)) (by kernel_rfl) (by kernel_rfl) (by kernel_rfl) (by kernel_rfl) (by exact fun _ _ _ C=>C) (Or.inl ⟨by rfl, ?_⟩) b ?_
           ·intro u y;try dsimp only at y
            go_simp
            try with_reducible rfl
           try simp only[Act.put,upA,upB,upC]
           refine ae 9 b ?_;refine ae 10 b ?_;refine ae 11 b ?_;refine Qk.take 12 [13,14,15,16,17,18,19,20] (v:= .int .i64 ((M:Int)+1)) (by (simp only[Kw,JW,JX];rfl)) (by kernel_rfl) (by kernel_rfl) (by kernel_rfl) (by kernel_rfl) (by exact fun _ _ _ C=>C) (Or.inl ⟨by rfl, ?_⟩) b ?_
           ·intro u y;try dsimp only at y
            go_simp
            try with_reducible rfl
           try simp only[Act.put,upA,upB,upC]
           refine Qk.take 13 [14,15,16,17,18,19,20] (v:= .int .i64 (M:Int)) (by (simp only[Kw,JW,JX];rfl)) (by kernel_rfl) (by kernel_rfl) (by kernel_rfl) (by kernel_rfl) (by exact fun _ _ _ C=>C) (Or.inl ⟨by rfl, ?_⟩) b ?_
           ·intro u y;try dsimp only at y
            go_simp
            try with_reducible rfl
           try simp only[Act.put,upA,upB,upC]
           refine ai 3 (fun K d=>?_);go_simp
           go_at_call 21
           refine (aI _ j a r q a2 _ 3 rfl O.o.rd (by omega) (by omega) F).mono ?_;rintro e m3 ⟨b7,rfl,i3,b8,b9⟩;have c:=Kz (O.o.drawn b8 b9);clear b8 b9;dsimp only;refine d.out _ _ (fun _=>c.o.box.c2) ?_;clear d K b;try simp only[Act.put,upA,upB,upC]
           have b:=c.o.box.c2;refine ai 4 (fun K d=>?_);go_simp
           go_at_call 127
           refine (qP _ b7 (by omega)).mono ?_;rintro e m5 ⟨f8,rfl,ht,i8⟩;have k:=Kz (c.o.kept i8);clear i8;dsimp only;refine d.out _ _ (fun _=>k.o.box.c2) ?_;clear d K b;try simp only[Act.put,upA,upB,upC]
           have b:=k.o.box.c2;obtain⟨t1,i9⟩:∃t1:KC,(⟨#[118]⟩:KC)++f8=t1:=⟨_,rfl⟩;have n1:t1.size<=2:=by rw[<-i9,ByteArray.size_append];show 1+f8.size<=2;omega
           have n2:¬9223372036854775807<1+f8.size:=by omega
           refine Qk.take 5 [6,16,17,18,19,20] (v:= .string t1) (by (simp only[Kw,JW,JX];rfl)) (by kernel_rfl) (by kernel_rfl) (by kernel_rfl) (by kernel_rfl) (by exact fun _ _ _ C=>C) (Or.inl ⟨by rfl, ?_⟩) b ?_
           ·intro u y;try dsimp only at y
            go_simp
            try with_reducible rfl
           try simp only[Act.put,upA,upB,upC]
           obtain⟨tx,j0⟩:∃tx:KC,t1++ (⟨#[40,41]⟩:KC)=tx:=⟨_,rfl⟩;have n3:tx.size<=300:=by rw[<-j0,ByteArray.size_append];show t1.size+2<=300;omega
           have e2:¬9223372036854775807<t1.size+2:=by omega
           refine Qk.take 6 [16,17,18,19,20] (v:= .string tx) (by (simp only[Kw,JW,JX];rfl)) (by kernel_rfl) (by kernel_rfl) (by kernel_rfl) (by kernel_rfl) (by exact fun _ _ _ C=>C) (Or.inl ⟨by rfl, ?_⟩) b ?_
           ·intro u y;try dsimp only at y
            go_simp
            try with_reducible rfl
           try simp only[Act.put,upA,upB,upC]
           clear i9 j0 n2 e2 n1 ht;refine ai 14 (fun K d=>?_);go_simp
           go_at_call 21
           refine (aI _ j a r q (a2+1) _ M rfl k.o.rd (by omega) (by omega) F).mono ?_;rintro e e3 ⟨Y,rfl,s0,j1,j2⟩;have D:=Kz (k.o.drawn j1 j2);clear j1 j2;dsimp only;refine d.out _ _ (fun _=>D.o.box.c2) ?_;clear d K b;try simp only[Act.put,upA,upB,upC]
           have b:=D.o.box.c2;have s1:IntKind.i64.wrap ((l:Int)+1+ (Y:Int))= (l:Int)+1+ (Y:Int):=by simp[IntKind.wrap,IntKind.bits,IntKind.signed];omega
           refine Qk.take 15 [16,17,18,19,20] (v:= .int .i64 ((l:Int)+1+ (Y:Int))) (by (simp only[Kw,JW,JX];rfl)) (by kernel_rfl) (by kernel_rfl) (by kernel_rfl) (by kernel_rfl) (by exact fun _ _ _ C=>C) (Or.inl ⟨by rfl, ?_⟩) b ?_
           ·intro u y;try dsimp only at y
            go_simp
            try with_reducible rfl
           try simp only[Act.put,upA,upB,upC]
           refine ae 16 b ?_;refine af 17 (fun K d=>?_);go_simp
           have a4:K_ e3 (e3.alloc (.cells #[.string tx,.int .i64 ((l:Int)+1+ (Y:Int))] 177)):=ag _ _;have h:=Kz (D.o.kept a4);have c7:=Kz a4;refine d.out _ _ (fun _=>h.o.box.c2) ?_;clear d K b a4;try simp only[Act.put,upA,upB,upC]
           obtain⟨ic,c2,c4,c5,c6⟩:=aM Tryz.om;refine af 18 (fun K d=>?_);refine step_append_lies _ rfl (.tmp 82) (.tmp 98) 81 rfl A.heap.size 177 ic _ 2 24 underlying81 c2 c4 c5 c6 rfl (by decide) (.slice ac B.cases.length cc) B.cases.length (aT B.cases) (by simp[Act.eval]) h.o.cases ⟨e3.heap.size,0,none⟩ 1 1 [.string tx,.int .i64 ((l:Int)+1+ (Y:Int))] (by simp[Act.eval]) rfl (fun E u y=>by rw[JL];exact X_ e3 #[.string tx,.int .i64 ((l:Int)+1+ (Y:Int))] 177 E u (by simpa using y)) (fun u y=>by simp at y;rcases y with rfl | rfl <;> rfl) (by omega) (by unfold maxLen;omega) (by omega) h.o.kb.size _ rfl ?_;intro g e4 s2 c8 a5 f9 g0;have Z:=Kz (D.o.yL c7.o a5);have Q:=Kz (D.o.qw (x:=⟨tx,(l:Int)+1+ (Y:Int)⟩) c7.o c8 a5 (by omega) ⟨n3,by show -1000<=(l:Int)+1+ (Y:Int);omega,by show (l:Int)+1+ (Y:Int)<=1000;omega⟩);have z6:=Z.o.row.lt;have y6:=Z.o.c2;obtain⟨_,e2⟩:=Z.o.cell (o:=2) (by omega);clear c8 a5 f9 g0;refine d.out _ _ (fun _=>Z.o.c2) ?_;clear d K;try simp only[Act.put,upA,upB,upC]
           have b:=Z.o.c2;refine ae 19 b ?_;refine af 20 (fun K d=>?_);go_simp
           refine d.out _ _ (fun C=>Ki rfl C) ?_;clear d K;try simp only[Act.put,upA,upB,upC]
           refine ay ?_;go_wp2
           go_roundg (gk-1)
           case measure=>omega
           case rel=>exact⟨_,_,a2+2,by go_num,by omega,by omega,by omega,by show (B.cases++ [_]).length+ (gk-1)<=q2;rw[JH];show B.cases.length+1+ (gk-1)<=q2;omega,Q.o⟩
       ·have d6:(0:Int)<(gk:Int):=by omega
        go_wp2_with fail
        refine (Gj _ j a r q p8 i n v.o.rd (by omega) hi hn F).mono ?_;rintro e f ⟨x,p9,rfl,hx,m1,m2,b5,b6⟩;have c:=Kz (v.o.drawn b5 b6);have y0:=c.o.box.c0;have yz:=c.o.box.row.lt;clear b5 b6 v;go_upto_region 15 with fail
        go_cut [58] from 43 to 57 (fun n4 G=>∃H:Bool,n4= .bool H/\K_ f G)
        case first=>
         obtain⟨ia,a9,c9,d0,d1⟩:=aM Tryz.d_;have e5:(f.alloc (.cells #[] 9)).ownsRow f.heap.size 9 1 (.slice (some ⟨f.heap.size,0,none⟩) 0 0) 0 []:=Jz f #[] 0 (IZ _) (Ja _) rfl;have e6:=Kz e5;have kA:K_ f (f.alloc (.cells #[] 9)):=ag _ _;have d2:=Kz kA;have n5:s.asks.length<=20:=c.o.tiny.asks;clear e5 kA;have fin:∀(wA w2:KH) (v1 X:KI) (V:Nat) (j3:List KI),K_ f wA->wA.ownsRow f.heap.size 9 1 v1 V j3->wA.grownBy w2 v1.ownBlock->w2.ownsRow f.heap.size 9 1 X (s.asks.length+1) ((s.asks++ [x]).map Value.string)->∃S T,X= .slice S (s.asks.length+1) T/\K_ f w2/\Calls prog 84 #[.slice S ((s.asks.length+1:Nat):Nat) T] w2 fun e w'=>(∃H:Bool,e= .returned (.bool H))/\K_ w2 w':=by
          intro wA w2 v1 X V j3 kA e5 hg hO;obtain⟨S,T,e,_,hT⟩:=bf hO;have g2:(s.asks++ [x]).length=s.asks.length+1:=by simp
          rw[g2] at e;refine⟨S,T,e, ?_,Aq w2 S T _ _ g2 (by rw[g2];omega) (fun n6 hy=>?_) hT.strs⟩
          ·exact Below.grown kA hg kA.size (fun l hk=>(e5.lt l hk).1)
          ·simp only[Jh,Jg] at hy;rcases hy with hy|rfl
           ·have:=c.o.tiny.dF n6 hy;omega
           ·omega
         have j4:=Kz fin;clear fin;rcases c.o.asks.2 with⟨ev,j5⟩|⟨g,cp,s4,ev,n7,j6,s5,_,_,_⟩
         ·subst ev;have n8:Hid (s.asks=[]):=Kn j5;have j7:=Kz (aj e6.o ((K_.refl _).alloc (.cells #[.string x] 9)));have j8:=Kz (d2.o.alloc (.cells #[.string x] 9));have j9:∀E u,([.string x]:List KI)[E]? =some u->((f.alloc (.cells #[] 9)).alloc (.cells #[.string x] 9)).cell? ((⟨f.heap.size+1,0,none⟩:Addr).add E)=some u:=by
           have:=iB (f.alloc (.cells #[] 9)) x;rw[JG] at this;exact this
          have n9:=Kz j9;have g3:f.heap.size<=((f.alloc (.cells #[] 9)).alloc (.cells #[.string x] 9)).heap.size:=j8.o.size;clear j5 j9 d5 n5;go_wp2_with (first | (at_builtin;refine wpList_append_own_none _ rfl (.tmp 51) (.tmp 53) 26 rfl f.heap.size 9 ia 1 underlying26 a9 (.slice (some ⟨f.heap.size,0,none⟩) 0 0) 0 [] rfl e6.o rfl ?_) | (at_builtin;refine wpList_append_own _ rfl (.tmp 54) (.tmp 56) 26 rfl f.heap.size 9 ia _ 1 16 underlying26 a9 c9 d0 d1 rfl (by decide) (.slice (some ⟨f.heap.size,0,none⟩) 0 0) 0 [] rfl j7.o ⟨f.heap.size+1,0,none⟩ 1 1 [.string x] rfl rfl n9.o (ib x) (by unfold maxLen;omega) (by omega) g3 ?_;intro X w2 I J _;obtain⟨S,T,rfl,k2,hC⟩:=j4.o _ w2 _ X 0 [] j8.o j7.o J (by rw[n8.o];exact I);have HC:=Kz hC;have g4:=Kz k2;clear I J hC k2))
          refine HC.o.mono ?_;rintro e w3 ⟨⟨H,rfl⟩,k3⟩;go_wp2
          go_meet
          exact⟨H,rfl,g4.o.trans k3⟩
         ·subst ev;have c1:∀E u,(s.asks.map Value.string)[E]? =some u->(f.alloc (.cells #[] 9)).cell? ((⟨g,0,none⟩:Addr).add E)=some u:=fun E u y=>(aj c.o.asks d2.o).cells (g:=g) rfl E u y
          have o0:=Kz c1;have g3:f.heap.size<=(f.alloc (.cells #[] 9)).heap.size:=d2.o.size;have s6:=aN j6;clear c1 j6 n7;go_wp2_with (first | (at_builtin;refine wpList_append_own _ rfl (.tmp 51) (.tmp 53) 26 rfl f.heap.size 9 ia _ 1 16 underlying26 a9 c9 d0 d1 rfl (by decide) (.slice (some ⟨f.heap.size,0,none⟩) 0 0) 0 [] rfl e6.o ⟨g,0,none⟩ s.asks.length cp (s.asks.map Value.string) rfl (by simp) o0.o (ug _) (by unfold maxLen;omega) (by omega) g3 ?_;intro v1 wA e7 k1 _;rw[JA,List.nil_append] at e7;obtain⟨o2,o3,rfl⟩:=ax e7;have N:=Kz (Below.grown d2.o k1 d2.o.size (fun l hk=>(e6.o.lt l hk).1));have k4:=Kz (aj e7 ((K_.refl wA).alloc (.cells #[.string x] 9)));have o4:f.heap.size<=(wA.alloc (.cells #[.string x] 9)).heap.size:=(K_.alloc (a:=f) N.o (.cells #[.string x] 9)).size;clear e7 k1) | (at_builtin;refine wpList_append_own _ rfl (.tmp 54) (.tmp 56) 26 rfl f.heap.size 9 ia _ 1 16 underlying26 a9 c9 d0 d1 rfl (by decide) (.slice o2 s.asks.length o3) s.asks.length (s.asks.map Value.string) rfl k4.o ⟨wA.heap.size,0,none⟩ 1 1 [.string x] rfl rfl (iB wA x) (ib x) (by unfold maxLen;omega) (by omega) o4 ?_;intro X w2 I J _;obtain⟨S,T,rfl,k2,hC⟩:=j4.o _ w2 _ X _ _ (K_.alloc (a:=f) N.o (.cells #[.string x] 9)) k4.o J (by rw[Km];exact I);have HC:=Kz hC;have g4:=Kz k2;clear I J hC k2))
          refine HC.o.mono ?_;rintro e w3 ⟨⟨H,rfl⟩,k3⟩;go_wp2
          go_meet
          exact⟨H,rfl,g4.o.trans k3⟩
        case rest=>
         obtain⟨H,rfl,k5⟩:=hcut;have k:=Kz (c.o.kept k5);clear c y0 yz k5;have y0:=k.o.box.c0;have yz:=k.o.box.row.lt;obtain⟨_,h2⟩:=k.o.box.cell (o:=0) (by omega);cases H
         ·go_wp2
          go_roundg (gk-1)
          case measure=>omega
          case rel=>exact⟨R,s,p9,by go_num,by omega,by omega,by omega,by omega,a0.o,k.o⟩
         ·obtain⟨ia,a9,c9,d0,d1⟩:=aM Tryz.d_;have W:K_ wc (wc.alloc (.cells #[.string x] 9)):=ag _ _;have N:=Kz W;have f5:=Kz (k.o.kept W).asks;have e1:A.heap.size<=(wc.alloc (.cells #[.string x] 9)).heap.size:=(k.o.kept W).kb.size;have f2:s.asks.length<=20:=k.o.tiny.asks;clear W;go_wp2_with (at_builtin;refine wpList_append_own _ rfl (.tmp 60) (.tmp 62) 26 rfl A.heap.size 9 ia _ 1 16 underlying26 a9 c9 d0 d1 rfl (by decide) R s.asks.length (s.asks.map Value.string) rfl f5.o ⟨wc.heap.size,0,none⟩ 1 1 [.string x] rfl rfl (iB wc x) (ib x) (by unfold maxLen;omega) (by omega) e1 ?_;intro X w2 I J _;have a3:=k.o.ry N.o J;have y2:=a3.c0;have z2:=a3.row.lt;obtain⟨_,n0⟩:=a3.cell (o:=0) (by omega);have f6:=Kz I;obtain⟨S,T,rfl⟩:=ax I;have f7:=Kz J;clear I J a3)
          go_roundg (gk-1)
          case measure=>omega
          case rel=>exact⟨_,{s with asks:=s.asks++ [x]},p9,by go_num,by omega,by omega,by omega,by show (s.asks++ [x]).length+ (gk-1)<=a6;rw[JH];show s.asks.length+1+ (gk-1)<=a6;omega,a0.o,k.o.nT N.o f6.o f7.o (by omega) (by omega)⟩
     ·have s9:l=V:=by omega
      clear m0;obtain⟨d9,e0,rfl⟩:=ax HO.o.own;have O:=Kz (HO.o.kept (aG A));have t0:Hid (au A w.heap.size 77 2):=g6.o.but HO.o.kb (by omega);have y1:=O.o.c1;have m7:L.length<=3:=by have:=e9.o;omega
      have t2:=Kz HO.o;go_upto_region 28 with fail
      refine Qk.region (by kernel_rfl) (fun w'=>w'.cell? ⟨w1.heap.size,1,none⟩=some (.slice d9 L.length e0)) 11 y1 (fun b=>?_);refine ae 0 b ?_;refine ae 1 b ?_;refine ae 2 b ?_;refine ae 5 b ?_;refine ai 3 (fun K d=>?_);go_simp
      go_at_call 21
      refine (aI _ j a r q p7 _ 8 rfl O.o.rd (by omega) (by omega) F).mono ?_;rintro e w3 ⟨v3,rfl,o5,k6,k7⟩;have c:=Kz (O.o.drawn k6 k7);clear k6 k7;dsimp only;refine d.out _ _ (fun _=>c.o.c1) ?_;clear d K b;try simp only[Act.put,upA,upB,upC]
      have b:=c.o.c1;obtain⟨P,o6⟩:∃P:Bool,((v3:Int) == 0)=P:=⟨_,rfl⟩;refine Qk.take 4 [7,8,9,10,11] (v:= .bool P) (by (simp only[Kw,JW,JX];rfl)) (by kernel_rfl) (by kernel_rfl) (by kernel_rfl) (by kernel_rfl) (by exact fun _ _ _ C=>C) (Or.inl ⟨by rfl, ?_⟩) b ?_
      ·intro u y;try dsimp only at y
       go_simp
       try with_reducible rfl
      try simp only[Act.put,upA,upB,upC]
      clear o6 o5;refine ai 6 (fun K d=>?_);go_simp
      go_at_call 160
      refine (Fg _ j a r q (p7+1) c.o.rd (by omega) F).mono ?_;rintro e w4 ⟨gv,p8,rfl,t3,h9,i0,b0,b1⟩;have k:=Kz (c.o.drawn b0 b1);clear b0 b1;dsimp only;refine d.out _ _ (fun _=>k.o.c1) ?_;clear d K b;try simp only[Act.put,upA,upB,upC]
      have b:=k.o.c1;refine ae 7 b ?_;refine af 8 (fun K d=>?_);go_simp
      have a4:K_ w4 (w4.alloc (.cells #[.slice none 0 0,.int .i64 0,.slice none 0 0,.int .i64 0,.int .i64 0,.bool true,.bool P,.string gv] 83)):=ag _ _;have h:=Kz (k.o.kept a4);have c7:=Kz a4;refine d.out _ _ (fun _=>h.o.c1) ?_;clear d K b a4;try simp only[Act.put,upA,upB,upC]
      obtain⟨ic,c2,c4,c5,c6⟩:=aM Tryz.jB;refine af 9 (fun K d=>?_);refine step_append_lies _ rfl (.tmp 118) (.tmp 125) 75 rfl (w.alloc (.cells #[.int .i64 0,.slice none 0 0] 77)).heap.size 83 ic _ 8 96 underlying75 c2 c4 c5 c6 rfl (by decide) (.slice d9 L.length e0) L.length xs (by simp[Act.eval]) h.o.own ⟨w4.heap.size,0,none⟩ 1 1 [.slice none 0 0,.int .i64 0,.slice none 0 0,.int .i64 0,.int .i64 0,.bool true,.bool P,.string gv] (by simp[Act.eval]) rfl (fun E u y=>by rw[JL];exact X_ w4 #[.slice none 0 0,.int .i64 0,.slice none 0 0,.int .i64 0,.int .i64 0,.bool true,.bool P,.string gv] 83 E u (by simpa using y)) (iF ⟨[],0,[],0,0,true,P,gv⟩ none 0 none 0) (by omega) (by unfold maxLen;omega) (by omega) h.o.kb.size _ rfl ?_;intro g e4 w5 c8 a5 f9 g0;have Z:=Kz (k.o.fw c7.o a5);have k8:ky w4 9 177 [.slice none 0 0,.int .i64 0,.slice none 0 0,.int .i64 0,.int .i64 0,.bool true,.bool P,.string gv] ⟨[],0,[],0,0,true,P,gv⟩:=⟨none,0,none,0,rfl,.inl rfl,.inl rfl,IZ _⟩;have k9:Xq.Tiny ⟨[],0,[],0,0,true,P,gv⟩:=⟨by simp,fun x hx=>by simp at hx,⟨by show (-1000:Int)<=0;omega,by show (0:Int)<=1000;omega⟩,by simp,fun x hx=>by simp at hx,mD ⟨by show (-1000:Int)<=0;omega,by show (0:Int)<=1000;omega⟩,⟨by show (-1000:Int)<=0;omega,by show (0:Int)<=1000;omega⟩,by show gv.size<=300;omega⟩;have Q:=Kz (k.o.push c7.o k8 k9 (jv (s:=⟨[],0,[],0,0,true,P,gv⟩) (fun _=>⟨rfl,rfl⟩) (fun _=>⟨rfl,rfl⟩)) c8 a5);obtain⟨⟨_,y6⟩,e2⟩:=Z.o.2.row.at (i:=1) (by omega);have z6:=Z.o.2.lt;have y7:=Z.o.1
      skip
      clear c8 a5 f9 g0 k8 k9;refine d.out _ _ (fun _=>y7) ?_;clear d K;try simp only[Act.put,upA,upB,upC]
      have b:=y7;refine ae 10 b ?_;refine af 11 (fun K d=>?_);go_simp
      refine d.out _ _ (fun C=>Ki rfl C) ?_;clear d K;try simp only[Act.put,upA,upB,upC]
      refine ay ?_;have t4:=Q.o.c0;have o1:=Q.o.c1;have oz:=Q.o.row.lt;have d3:=Kz (g6.o.but Q.o.kb (by omega));obtain⟨⟨_,t5⟩,t6⟩:=d3.o.row.at (i:=0) (by omega);obtain⟨⟨_,t7⟩,g1⟩:=d3.o.row.at (i:=1) (by omega);have xz:=d3.o.lt;clear b y6 e2 z6 y7;go_wp2
      have hR:=Jc (w5.setCell ⟨w1.heap.size,1,none⟩ (.slice (some ⟨g,0,none⟩) (L.length+1) e4)) w.heap.size 0 [.int .i64 cost,.slice (some ⟨g,0,none⟩) (L.length+1) e4] (d3.o.row.there (o:=0) (m:=2) (IZ _));refine Zx [.int .i64 cost,.slice (some ⟨g,0,none⟩) (L.length+1) e4] _ results126 rfl hR underlying77 rfl Tryz.gY rfl ?_;exact Q.o.ends d3.o k0 l0.o rfl (by omega) (by omega) (by rw[JH];show 1<=L.length+1;omega) (by rw[JH];show L.length+1<=20;omega) (by omega)
theorem vk(w:KH)(b:Nat)(a:KG)(d:Nat)(c:List UInt8)(p i n:Nat)(f h:Int)(j:f= (i:Int))(k:h= (n:Int))(l:Rd w b a d c p)(m:p<=800000)(q:i<=100000)(r:n<=100000)(s:c.length<=2000):
  Calls prog 126 #[.pointer (some ⟨b,0,none⟩),.int .i64 f,.int .i64 h] w fun e w'=>oP w w' b a d c p 100 e:=by
 rw[j,k];exact tN w b a d c p i n l m q r s
theorem iW(w:KH)(i:Nat)(a:Int)(b:a= (i:Int))(c:i<=100000):
  Calls prog 24 #[.int .i64 a] w fun e w'=>zm w w' e:=by
 rw[b];exact lG w i c
def p_(F t M N B:Nat):Prop:=∀(w:KH) (rb:Nat) (a:KG) (cap:Nat) (bs:List UInt8) (p:Nat),Rd w rb a cap bs p->p<=B->bs.length<=2000->
 Calls prog F #[.pointer (some ⟨rb,0,none⟩)] w fun e w'=>kM M N w w' rb a cap bs p t e
theorem kM.via{N:Nat}{h:KH}{f t t':Nat}{e:Ending}(A:kM M N w1 w2 rb a cap bs f t e)(d:Xj rb (rb+1) h w1)(c:K_ w h)(O:p<=f)(h2:f+t<=p+t')(B:Rd w rb a cap bs p){b:Nat}(C:w.heap.size<=b)(D:au w1 b 25 1)(P:b≠rb):
  ∃v,e= .returned (.agg #[v])/\au w2 b 25 1/\(∃i vn j,v= .slice i vn j)/\kM M N w (w2.setCell ⟨b,0,none⟩ v) rb a cap bs p t' e:=by
 obtain⟨v,L,E,k,Q,R,F,G,l,H,m,I⟩:=A;have n:au w2 b 25 1:=D.but m (by omega);have J:=n.same (o:=0) v;have q:Below w.heap.size w2 (w2.setCell ⟨b,0,none⟩ v):=(Below.refl _ _).setCell (p:=⟨b,0,none⟩) C _;have r:Xj rb (rb+1) w w1:=⟨d.os.trans c.os,d.tape.trans c.tape,d.output.trans c.output,Jb c.size d.size,fun s x K=>(d.block s (I_ x c.size) K).trans (c.block s x)⟩;have y:=r.trans m;obtain⟨i,j,rfl,_,_⟩:=l.slice;exact⟨_,k,n,⟨_,_,_,rfl⟩,_,L,E,k,by omega,by omega,F,G,l.same J (by decide) (by decide) (by decide) (by decide),H.below B q y.size,y.below q,I.mono r.size⟩
theorem Em(c7:Hid (p_ 22 400 20 60 700000))(c8:Hid (p_ 125 400 20 60 700000)):p_ 93 1100 20 60 600000:=by
 intro w f a j l p e hp C;have U:K_ w (w.alloc (.cells #[.slice none 0 0] 25)):=ag _ _;have b0:Hid (Rd (w.alloc (.cells #[.slice none 0 0] 25)) f a j l p):=e.kept U;have x:Hid (au (w.alloc (.cells #[.slice none 0 0] 25)) w.heap.size 25 1):=au.made w _ _;have e9:=e.row.lt;have a4:=Kz e;clear e;go_enter func93,ntmps93
 go_wp2_with fail
 refine (aI _ f a j l p _ 10 rfl b0.o (by omega) (by omega) C).mono ?_;rintro A w1 ⟨V,rfl,f1,b1,a5⟩;have⟨W,X⟩:=aD b1 a5;have D:=Kz (x.o.but a5 (by omega));clear b1 a5;by_cases Y:V=0
 ·have c9:((V:Int) == 0)=true:=by simp[Y]
  clear Y;go_wp2_with fail
  refine (c7.out _ f a j l (p+1) W.o (by omega) C).mono ?_;intro A w2 E;obtain⟨v,rfl,n,⟨F,G,H,rfl⟩,I⟩:=E.via (p:=p) X.o U (by omega) (by omega) a4.o (IZ _) D.o (by omega) (t':=1100);have⟨HD,a6⟩:=aD I n;have z2:=n.lt;obtain⟨⟨_,u0⟩,f0⟩:=n.row.at (i:=0) (by omega);clear I E n;go_wp2
  have e:=Jc w2 w.heap.size 0 [.slice F G H] (a6.o.row.there (o:=0) (m:=1) (IZ _));exact Zx [.slice F G H] _ results93 rfl e underlying25 rfl Tryz.fC rfl HD.o
 have c9:((V:Int) == 0)=false:=by simpa using Y
 clear Y;by_cases h4:(V:Int)<4
 ·go_wp2_with fail
  refine (c8.out _ f a j l (p+1) W.o (by omega) C).mono ?_;intro A w2 E;obtain⟨v,rfl,n,⟨F,G,H,rfl⟩,I⟩:=E.via (p:=p) X.o U (by omega) (by omega) a4.o (IZ _) D.o (by omega) (t':=1100);have⟨HD,a6⟩:=aD I n;have z2:=n.lt;obtain⟨⟨_,u0⟩,f0⟩:=n.row.at (i:=0) (by omega);clear I E n;go_wp2
  have e:=Jc w2 w.heap.size 0 [.slice F G H] (a6.o.row.there (o:=0) (m:=1) (IZ _));exact Zx [.slice F G H] _ results93 rfl e underlying25 rfl Tryz.fC rfl HD.o
 have a7:Hid (fD 20 (w.alloc (.cells #[.slice none 0 0] 25)) (w1.alloc (.cells #[.slice none 0 0] 25)) f w1.heap.size a j l (p+1) (.slice none 0 0) [] []):=fD.made b0.o W.o X.o;have b2:Hid (au (w1.alloc (.cells #[.slice none 0 0] 25)) w.heap.size 25 1):=D.o.kept (ag _ _);go_wp2_with fail
 refine (aI _ f a j l (p+1) _ 9 rfl a7.o.rd (by omega) (by omega) C).mono ?_;rintro A w2 ⟨v2,rfl,f2,b3,a8⟩;have b4:=Kz (a7.o.drawn b3 a8);have J:=Kz (b2.o.but a8 (by omega));have d0:w.heap.size≠w1.heap.size:=fun A=>by have:=D.o.lt;omega
 obtain⟨L,f3⟩:∃L:Nat,L=2+v2:=⟨_,rfl⟩;clear b3 a8 a7 b2 D W X;go_wp2
 go_loopg [6] L (fun g d1 wr=>∃(k:Nat) (p':Nat) (v:KI) (Z:List Qz) (a0:List KI),d1= .int .i64 (k:Int)/\k+g=L/\Z.length=k/\p<=p'/\p'<=p+2+100*k/\au wr w.heap.size 25 1/\fD 20 (w.alloc (.cells #[.slice none 0 0] 25)) wr f w1.heap.size a j l p' v Z a0)
 case atStart=>exact⟨0,p+2,_,[],[],rfl,by omega,rfl,by omega,by omega,J.o,b4.o⟩
 case round=>
  clear b4 J;obtain⟨k,p7,v,Z,a0,rfl,hk,hL,f4,f5,b5,B⟩:=hrel;obtain⟨wO,rfl⟩:=ah wr;have⟨HO,q,x⟩:=eB B hL b5;obtain⟨M,O,rfl⟩:=ax B.own;have y0:=B.c0;have zb:=B.row.lt;have f6:=B.kb.size;rw[hL] at y0;clear B hL b5;by_cases f7:(k:Int)<2+ (v2:Int)
  ·have d2:Hid (∀v:KH,v.cell? ⟨w1.heap.size,0,none⟩=wO.cell? ⟨w1.heap.size,0,none⟩->(fun (v:KH)=>v.cell? ⟨w1.heap.size,0,none⟩=some (.slice M k O)) v):=fun v hv=>hv.trans y0
   obtain⟨d3,d4,d5,d6,d7⟩:=aM Tryz.lL;go_wp2
   refine Qk.region (by kernel_rfl) (fun (v:KH)=>v.cell? ⟨w1.heap.size,0,none⟩=some (.slice M k O)) 12 y0 (fun b=>?_);refine ae 0 b ?_;refine ae 1 b ?_;refine ae 2 b ?_;refine ae 4 b ?_;refine ae 5 b ?_;refine ae 6 b ?_;refine ai 3 (fun K c=>?_);go_simp
   go_at_call 24
   refine (iW _ k _ rfl (by omega)).mono ?_;rintro A w3 ⟨r,rfl,f8,k3⟩;have K3:K_ wO w3:=(aG _).trans k3;dsimp only;refine c.out _ _ (fun _=>d2.o w3 (K3.cell zb)) ?_;clear c K b k3;have a1:=Kz (HO.o.kept K3);have J:=Kz (x.o.kept K3);have y3:=(K3.cell (o:=0) zb).trans y0;have f9:=a1.o.row.lt;have b:=y3;try simp only[Act.put,upA,upB,upC]
   refine ai 7 (fun K c=>?_);go_simp
   go_at_call 126
   refine (vk _ f a j l p7 k L _ _ rfl (by omega) a1.o.rd (by omega) (by omega) (by omega) C).mono ?_;rintro A P ⟨cost,us,s,p8,rfl,g0,g1,d8,d9,b6,b7,b8,b9,a9⟩;have Q:=Kz (a1.o.drawn b9 a9);have e0:=Kz (J.o.but a9 (by omega));have y4:=Q.o.c0;rw[q.o] at y4;have c1:=Kz b8.g;obtain⟨R,S,rfl⟩:=c1.o.slice;have e1:Hid (Qz.TinyN 20 ⟨r,cost,s⟩):=⟨by show r.size<=300;omega,b6,by show s.length<=21;omega,b7⟩;dsimp only;refine c.out _ _ (fun _=>y4) ?_;clear c K b b8 b9 a9 d8 d9 b6 b7 y3 a1 J;have e2:=Q.o.row.lt;have b:=y4;try simp only[Act.put,upA,upB,upC]
   refine ae 8 b ?_;refine af 9 (fun K c=>?_);go_simp
   have y:K_ P (P.alloc (.cells #[.string r,.int .i64 cost,.slice R s.length S] 79)):=ag _ _;refine c.out _ _ (fun _=>(y.cell e2).trans y4) ?_;clear c K b;try simp only[Act.put,upA,upB,upC]
   refine af 10 (fun K c=>?_);have c2:=Kz (Q.o.kept y);have a2:=c2.o.own;rw[q.o] at a2;have e3:(w.alloc (.cells #[.slice none 0 0] 25)).heap.size<=(P.alloc (.cells #[.string r,.int .i64 cost,.slice R s.length S] 79)).heap.size:=c2.o.kb.size;refine step_append_lies _ rfl (.tmp 27) (.tmp 35) 23 rfl (w.alloc (.cells #[.slice none 0 0] 25)).heap.size 79 d3 _ 3 48 underlying23 d4 d5 d6 d7 rfl (by decide) (.slice M k O) k a0 (by simp[Act.eval]) a2 ⟨P.heap.size,0,none⟩ 1 1 [.string r,.int .i64 cost,.slice R s.length S] (by simp[Act.eval]) rfl (mi _ _ _ _) (mI _ _ _ _ _) (by omega) (by unfold maxLen;omega) (by omega) e3 _ rfl ?_;intro g c3 w6 c4 a3 e4 g2;have T:=Q.o.fw y (by rw[q.o];exact a3);have y6:=T.1;rw[q.o] at y6;have g3:=T.2.lt;have g4:=(T.2.row.at (i:=0) (by omega)).2;obtain⟨vo,g5⟩:=(T.2.row.at (i:=0) (by omega)).1;have e5:Hid (fD 20 (w.alloc (.cells #[.slice none 0 0] 25)) (w6.setCell ⟨w1.heap.size,0,none⟩ (.slice (some ⟨g,0,none⟩) (k+1) c3)) f w1.heap.size a j l p8 (.slice (some ⟨g,0,none⟩) (k+1) c3) (Z++ [⟨r,cost,s⟩]) (a0++ [.string r,.int .i64 cost,.slice R s.length S])):=
    Q.o.push (d:=⟨r,cost,s⟩) y (c1.o.same (u:=25) (.aC y) (by decide) (by decide) (by decide)) e1.o (by rw[q.o];exact c4) (by rw[q.o];exact a3)
   have c5:ak 79 (P.alloc (.cells #[.string r,.int .i64 cost,.slice R s.length S] 79)) w6:=ak.aK a2 a3;have e6:Hid (au w6 w.heap.size 25 1):=by
    obtain⟨c6,e7,e8⟩:=e0.o.kept y;exact⟨c6,c5 _ c6 _ _ (by decide) e7,e8⟩
   clear T a2 c4 a3 e4 c5 y;refine c.out _ _ (fun _=>y6) ?_;clear c K;try simp only[Act.put,upA,upB,upC]
   have b:=y6;refine ae 11 b ?_;refine af 12 (fun K c=>?_);go_simp
   refine c.out _ _ (fun h=>Ki rfl h) ?_;clear c K;try simp only[Act.put,upA,upB,upC]
   refine ay ?_;go_wp2
   go_roundg (gk-1)
   case rel=>exact⟨k+1,p8,_,_,_,by go_num,by omega,by rw[JH,q.o];rfl,by omega,by omega,e6.o.block (Below.heap_setCell _ _ _ _ (by simpa using d0)),e5.o⟩
   case measure=>omega
  ·obtain⟨⟨_,x0⟩,g6⟩:=x.o.row.at (i:=0) (by omega);have z1:=x.o.lt;go_wp2
   have e:=Jc wO w.heap.size 0 [.slice M k O] (x.o.row.there (o:=0) (m:=1) (IZ _));have hE:=HO.o.ends (N:=60) (p:=p) (t:=1100) x.o (IZ _) U a4.o rfl (by omega) (by omega) (by have:=q.o;omega);rw[q.o] at hE;exact Zx [.slice M k O] _ results93 rfl e underlying25 rfl Tryz.fC rfl hE
section
variable {M : Nat} {w wr : KH} {rb ob sb : Nat} {a : KG} {cap : Nat} {bs : List UInt8} {p : Nat} {cost : Int} {v : KI} {L : List Xq} {xs : List KI} {k : Nat} {va vc : KI} {s : Xq}
theorem dM.fin(h:dM M w wr rb ob sb a cap bs p cost v L xs k va vc s)(x:Bool):dM M w (wr.setCell ⟨sb,5,none⟩ (.bool x)) rb ob sb a cap bs p cost v L xs k va vc {s with fin:=x}:=
 h.field (h.st.box.fin x) rfl rfl ⟨h.st.tiny.asks,h.st.tiny.dF,h.st.tiny.on,h.st.tiny.cases,h.st.tiny.di,h.st.tiny.els,h.st.tiny.fall,h.st.tiny.give⟩
theorem dM.bad(h:dM M w wr rb ob sb a cap bs p cost v L xs k va vc s)(x:Bool):dM M w (wr.setCell ⟨sb,6,none⟩ (.bool x)) rb ob sb a cap bs p cost v L xs k va vc {s with bad:=x}:=
 h.field (h.st.box.bad x) rfl rfl ⟨h.st.tiny.asks,h.st.tiny.dF,h.st.tiny.on,h.st.tiny.cases,h.st.tiny.di,h.st.tiny.els,h.st.tiny.fall,h.st.tiny.give⟩
theorem dM.give(h:dM M w wr rb ob sb a cap bs p cost v L xs k va vc s)(x:KC)(c:x.size<=300):dM M w (wr.setCell ⟨sb,7,none⟩ (.string x)) rb ob sb a cap bs p cost v L xs k va vc {s with give:=x}:=
 h.field (h.st.box.give x) rfl rfl ⟨h.st.tiny.asks,h.st.tiny.dF,h.st.tiny.on,h.st.tiny.cases,h.st.tiny.di,h.st.tiny.els,h.st.tiny.fall,c⟩
theorem dM.on(h:dM M w wr rb ob sb a cap bs p cost v L xs k va vc s)(x:Int)(c: -1000<=x/\x<=1000):dM M w (wr.setCell ⟨sb,1,none⟩ (.int .i64 x)) rb ob sb a cap bs p cost v L xs k va vc {s with on:=x}:=
 h.field (h.st.box.on x) rfl rfl ⟨h.st.tiny.asks,h.st.tiny.dF,c,h.st.tiny.cases,h.st.tiny.di,h.st.tiny.els,h.st.tiny.fall,h.st.tiny.give⟩
theorem dM.els(h:dM M w wr rb ob sb a cap bs p cost v L xs k va vc s)(x:Int)(c:In64 x):dM M w (wr.setCell ⟨sb,3,none⟩ (.int .i64 x)) rb ob sb a cap bs p cost v L xs k va vc {s with els:=x}:=
 h.field (h.st.box.els x) rfl rfl ⟨h.st.tiny.asks,h.st.tiny.dF,h.st.tiny.on,h.st.tiny.cases,h.st.tiny.di,c,h.st.tiny.fall,h.st.tiny.give⟩
theorem dM.fall(h:dM M w wr rb ob sb a cap bs p cost v L xs k va vc s)(x:Int)(c: -1000<=x/\x<=1000):dM M w (wr.setCell ⟨sb,4,none⟩ (.int .i64 x)) rb ob sb a cap bs p cost v L xs k va vc {s with fall:=x}:=
 h.field (h.st.box.fall x) rfl rfl ⟨h.st.tiny.asks,h.st.tiny.dF,h.st.tiny.on,h.st.tiny.cases,h.st.tiny.di,h.st.tiny.els,c,h.st.tiny.give⟩
end
theorem dM.GM{c e:Nat}{cost:Int}{k:Nat}{f d:KI}(h:dM M w wr rb c e a cap bs p cost v L xs k f d s)(i:K_ wr w1)(j:w1.grownBy w2 d.ownBlock):w2.cell? ⟨c,1,none⟩=some v:=by
 have b:=h.kept i;exact ((b.row.eF (ak.aK b.st.cases j) (by decide)).2 1).trans b.c1
theorem dM.cut{c m:Nat}{cost:Int}{k g b:Nat}{n q:KI}(h:dM M w wr rb c m a cap bs p cost (.slice (some ⟨g,0,none⟩) L.length b) L xs k n q s):
  rE M w (wr.setCell ⟨c,1,none⟩ (.slice (some ⟨g,0,none⟩) k b)) rb c a cap bs p cost (.slice (some ⟨g,0,none⟩) k b) (L.take k):=by
 have C:=h.kl;have r:=h.row.same (o:=1) (.slice (some ⟨g,0,none⟩) k b);have f:Below w.heap.size wr (wr.setCell ⟨c,1,none⟩ (.slice (some ⟨g,0,none⟩) k b)):=(Below.refl _ _).setCell h.obl _;obtain⟨D,t⟩:=h.st.rd0;have e:(L.take k).length=k:=by rw[Jt];omega
 rcases h.own.2 with⟨d,_⟩|⟨E,F,v,d,G,x,H,_,I,_⟩
 ·simp at d
 simp only[JJ,JI,Kv,and_true,true_and] at d;obtain⟨rfl,rfl⟩:=d;refine⟨h.st.rd.below t f h.st.kb.size,h.st.kb.below f,h.row.set _,(Xk (by omega) _).trans h.c0,aS h.row.row (by omega) _,StW.same ⟨some ⟨g,0,none⟩,b,by rw[e],by rw[e];omega,fun i j=>?_⟩ r (by decide) (by decide) (by decide),fun y A=>h.tiny y (List.mem_of_mem_take A)⟩;rw[e] at j;have l:=(h.oth i (by omega) (by omega)).1;have B:(L.take k).getD i Xq.zero=L.getD i Xq.zero:=by simp[List.getD,j]
 rw[B];exact⟨g,0,v,_,jZ xs i,rfl,x,oh h.own i,l.step,l.mU⟩
theorem jc.fin{c:Nat}{cost:Int}(h:jc M w wr rb c a cap bs p cost v L xs):rE M w wr rb c a cap bs p cost v L:=
 ⟨h.rd,h.kb,h.row,h.c0,h.c1,StW.fQ h.own h.pack h.mU,h.tiny⟩
theorem dM.act{b d:Nat}{cost:Int}{k:Nat}{e f:KI}(h:dM M w wr rb b d a cap bs p cost v L xs k e f s)(c:dN wr w.heap.size xs L):jc M w wr rb b a cap bs p cost v L xs:=
 ⟨h.st.rd,h.st.rd0,h.obl,h.st.kb,h.row,h.c0,h.c1,h.own,c.packed,h.tiny,c.mU⟩
def Ih(M:Nat)(A0 wx:KH)(rb ob sb:Nat)(a:KG)(cap:Nat)(bs:List UInt8)(p:Nat)(v:KI)(L:List Xq)(xs:List KI)(k:Nat):Prop:=
 ∃(cost:Int) (va vc:KI) (s:Xq) (p':Nat),(-1000<=cost/\cost<=1000)/\p<=p'/\p'<=p+4/\dM M A0 wx rb ob sb a cap bs p' cost v L xs k va vc s
theorem Db(mN:Nat)(o5:mN<=900)(w:KH)(B:Nat)(a:KG)(G:Nat)(D:List UInt8)(p:Nat)(cost:Int)(sa:KG)(b7:Nat)(L:List Xq)(hR:Rd w B a G D p)(hp:p<=800000)(Q:D.length<=2000)(hL:L.length<=21)(R: -1000<=cost/\cost<=1000)(g3:∀s∈L,s.TinyN mN)(hS:jE w sa L):
  Calls prog 97 #[.pointer (some ⟨B,0,none⟩),.agg #[.int .i64 cost,.slice sa L.length b7]] w fun e w'=>GQ (mN+10) w w' B a G D p 10 e:=by
 obtain⟨O,b8⟩:=ah ((w.alloc (.cells #[.int .i64 cost,.slice sa L.length b7] 77)).alloc (.cells #[.int .i64 0,.slice none 0 0] 77));have k0:K_ w O:=by rw[b8];exact (ag _ _).alloc _
 have i8:O.heap.size=w.heap.size+2:=by rw[b8];simp
 have d7:Hid (au O (w.heap.size+1) 77 2):=by
  rw[b8];refine Kz ?_;have:=au.made (w.alloc (.cells #[.int .i64 cost,.slice sa L.length b7] 77)) #[.int .i64 0,.slice none 0 0] 77;simpa using this
 have a0:O.cell? ⟨w.heap.size,0,none⟩=some (.int .i64 cost):=by
  rw[b8,K_.cell (w:=w.alloc (.cells #[.int .i64 cost,.slice sa L.length b7] 77)) (ag _ _) (by simp)];exact X_ w _ _ 0 _ rfl
 have o6:O.cell? ⟨w.heap.size,1,none⟩=some (.slice sa L.length b7):=by
  rw[b8,K_.cell (w:=w.alloc (.cells #[.int .i64 cost,.slice sa L.length b7] 77)) (ag _ _) (by simp)];exact X_ w _ _ 1 _ rfl
 have az:w.heap.size<O.heap.size:=by omega
 have d8:=Kz hR;have d9:=Kz (hR.kept k0);have o7:=hR.row.lt;have i9:=Kz g3;have j0:Hid (∀s∈L,s.TinyN (mN+10)):=fun s hs=>(g3 s hs).mono (by omega)
 clear hR g3;go_enter func97,ntmps97
 go_upto_region 1 with fail
 rw[<-b8];have o8:=Kz i8;clear b8 i8;go_wp2_with fail
 refine (Ap _ cost sa b7 L (by omega) (mN:=mN) (by omega) i9.o (hS.kept k0)).mono ?_;rintro e w1 ⟨v1,xs,rfl,g4,j1,k1⟩;obtain⟨av,H,rfl⟩:=ax g4;have kk:K_ w1 (w1.alloc (.cells #[.int .i64 cost,.slice av L.length H] 77)):=ag _ _;have a3:=Kz (k1.trans kk);have b3:=Kz (aj g4 kk);have e2:=Kz (j1.same (u:=90) (ak.aC kk) (by decide) (by decide));have c8:Hid (au (w1.alloc (.cells #[.int .i64 cost,.slice av L.length H] 77)) w1.heap.size 77 2):=au.made w1 _ _;have c9:Hid ((w1.alloc (.cells #[.int .i64 cost,.slice av L.length H] 77)).cell? ⟨w1.heap.size,0,none⟩=some (.int .i64 cost)):=X_ w1 _ _ 0 _ rfl;have b4:Hid ((w1.alloc (.cells #[.int .i64 cost,.slice av L.length H] 77)).cell? ⟨w1.heap.size,1,none⟩=some (.slice av L.length H)):=X_ w1 _ _ 1 _ rfl;have m1:O.heap.size<=w1.heap.size:=k1.size;clear g4 j1 k1 kk;go_upto_region 2 with fail
 obtain⟨W2,j2⟩:=ah (w1.alloc (.cells #[.int .i64 cost,.slice av L.length H] 77));rw[<-j2] at a3 b3 e2 c8 c9 b4⊢;clear j2;have o1:=b4.o;have oz:=c8.o.lt;by_cases e3:L.length=0
 ·have m2:((L.length:Int) == 0)=true:=by simp[e3]
  have T:=Kz (rE.made (d9.o.kept a3.o) (.aC a3.o) c8.o c9.o b4.o b3.o e2.o j0.o);clear e3;have I:=Kz (d7.o.kept a3.o);obtain⟨⟨_,x0⟩,g5⟩:=I.o.row.at (i:=0) (by omega);obtain⟨⟨_,x1⟩,g1⟩:=I.o.row.at (i:=1) (by omega);have xz:=I.o.lt;have o0:=c9.o;go_wp2
  have hR:=Jc W2 (w.heap.size+1) 0 [.int .i64 cost,.slice av L.length H] (I.o.row.there (o:=0) (m:=2) (IZ _));exact Zx [.int .i64 cost,.slice av L.length H] _ results97 rfl hR underlying77 rfl Tryz.gY rfl (T.o.ends I.o (by omega) k0 d8.o rfl (IZ _) (by omega) (by omega) R)
 ·have m2:((L.length:Int) == 0)=false:=by simpa using e3
  go_wp2_with fail
  refine (aI _ B a G D p _ L.length rfl (d9.o.kept a3.o) (by omega) (by omega) Q).mono ?_;rintro e Z ⟨V,rfl,hk,j3,g6⟩;have g7:V<L.length:=by omega
  have e5:=g6.sameKind (d9.o.kept a3.o);have j4:=Kz j3;have m3:Hid (Xj B (B+1) O Z):=(Xj.aC a3.o).trans g6;have e6:=c8.o.eF e5 (by decide);have g8:=Kz e6.1;have o0:=(e6.2 0).trans c9.o;have j5:=(e6.2 1).trans b4.o;have e7:=Kz (aH b3.o e5 (by decide));have e8:=Kz (e2.o.same e5 (by decide) (by decide));have m4:=g8.o.lt;obtain⟨s,d0⟩:=ah (L.getD V Xq.zero);have j6:=e8.o.each V g7;rw[<-d0] at j6;obtain⟨aa,ca,ac,cc,g9,g1,g2⟩:=j6;rcases e7.o.2 with⟨_,e0⟩|⟨g,d1,m5,ev,o9,h0,j7,_,c6,_⟩
  ·exact Ki e0 e3
  simp only[JJ,true_and] at ev;obtain⟨rfl,rfl⟩:=ev;have b0:=oh e7.o V;rw[g9] at b0;have h1:=b0 0 _ rfl;have c1:=b0 1 _ rfl;have j8:=b0 2 _ rfl;have j9:=b0 3 _ rfl;have c4:=b0 4 _ rfl;have c5:=b0 5 _ rfl;have k2:=b0 6 _ rfl;have k3:=b0 7 _ rfl;rw[JM] at h1;simp only[JA] at h1 c1 j8 j9 c4 c5 k2 k3;have gz:=aN h0;have e9:=Kz (dM.made j4.o d9.o m3.o m1 g8.o o0 j5 e7.o e8.o g7 j0.o d0 g9);have m6:Hid (au Z g 83 (H*8)):=⟨m5,h0,c6⟩;have p0:L.length<=H:=j7;have p1:(V:Int)<(L.length:Int):=by omega
  have h2:s.TinyN mN:=i9.o s (by rw[d0];simp[List.getD,g7]);have p2:=h2.asks;have p3:=h2.cases;clear h2;have p4:=Kz d0;clear b0 h0 c6 g1 g2 g9 j7 j3 g6 e5 e6 d0;go_wp2_with fail
  refine (aI _ B a G D (p+1) _ 14 rfl e9.o.st.rd (by omega) (by omega) Q).mono ?_;rintro e X ⟨u,rfl,C,k4,h3⟩;have n:=Kz (e9.o.drawn k4 h3);have k5:=h3.sameKind e9.o.st.rd;have d2:K_ Z (Z.alloc (.cells #[.slice aa s.asks.length ca,.int .i64 s.on,.slice ac s.cases.length cc,.int .i64 s.els,.int .i64 s.fall,.bool s.fin,.bool s.bad,.string s.give] 83)):=ag _ _;have k6:=Kz ((e8.o.same (u:=90) (ak.aC d2) (by decide) (by decide)).same k5 (by decide) (by decide));have f0:Z.heap.size<X.heap.size:=n.o.st.box.row.lt;clear k4 h3 e9 e8 e2 h1 c1 j8 j9 c4 c5 k2 k3 m6 g8 e7 o0 j5 o1 c9 b4 c8 b3 d2 k5 j4 gz m4 oz
  go_upto_block 0 with fail
  go_cut [8,9,10] from 31 to 198 (fun _ _ _ wx=>Ih (mN+10) O wx B w1.heap.size Z.heap.size a G D (p+2) (.slice (some ⟨g,0,none⟩) L.length H) L xs V)
  case first=>
   have b9:u=0\/u=1\/u=2\/u=3\/u=4\/u=5\/u=6\/u=7\/u=8\/u=9\/u=10\/u=11\/u=12\/u=13:=by omega
   have y5:=n.o.st.box.c5;have y6:=n.o.st.box.c6;have y3:=n.o.st.box.c3;obtain⟨_,f5⟩:=n.o.st.box.cell (o:=5) (by omega);obtain⟨_,f6⟩:=n.o.st.box.cell (o:=6) (by omega);obtain⟨_,f3⟩:=n.o.st.box.cell (o:=3) (by omega);obtain⟨_,h4⟩:=n.o.st.box.cell (o:=7) (by omega);clear C;obtain rfl|rfl|rfl|rfl|rfl|rfl|rfl|rfl|rfl|rfl|rfl|rfl|rfl|rfl:=b9
   ·have d2:K_ X (X.alloc (.cells #[.int .i64 0,.int .i64 20,.int .i64 21] 3)):=ag _ _;have r:=Kz (n.o.kept d2);go_wp2_with fail
    refine (aI _ B a G D (p+2) _ 3 rfl r.o.st.rd (by omega) (by omega) Q).mono ?_;rintro e l ⟨q,rfl,hq,k,i⟩;have j:=Kz (r.o.drawn k i);obtain⟨c,A,E,F⟩:=sI [0,20,21] i n.o.st.rd.row.lt q (by show q<3;omega) (by decide);obtain⟨⟨_,p5⟩,p6⟩:=j.o.row.row.at (i:=0) (by omega);have rz:=j.o.row.lt;have lz:X.heap.size<l.heap.size:=I_ (by simp) i.size;have p7:(q:Int)<3:=by omega
    clear k i r d2;go_wp2
    go_meet
    exact⟨c,_,_,_,p+3,⟨E,F⟩,by omega,by omega,j.o.cost⟩
   ·go_wp2
    go_meet
    exact⟨cost,_,_,_,p+2,R,by omega,by omega,n.o.fin _⟩
   ·go_wp2
    go_meet
    exact⟨cost,_,_,_,p+2,R,by omega,by omega,n.o.bad _⟩
   ·go_wp2_with fail
    refine (aI _ B a G D (p+2) _ 2 rfl n.o.st.rd (by omega) (by omega) Q).mono ?_;rintro e l ⟨q,rfl,hq,k,i⟩;have j:=Kz (n.o.drawn k i);obtain⟨⟨_,r7⟩,p8⟩:=j.o.st.box.cell (o:=7) (by omega);have rz:=j.o.st.box.row.lt;clear k i;go_wp2_with fail
    refine (sG _ ⟨#[103]⟩ _ (30+q) (by push_cast;rfl) (by omega) (by decide)).mono ?_;rintro e w6 ⟨⟨x,rfl,t⟩,rfl⟩;have d3:x.size<=300:=by have e1:(⟨#[103]⟩:KC).size=1:=rfl;rw[e1] at t;omega
    go_wp2
    go_meet
    exact⟨cost,_,_,_,p+3,R,by omega,by omega,j.o.give _ d3⟩
   ·have r:=Kz (n.o.kept (aG X));have U:=r.o.st.box.c0;go_upto_region 17 with fail
    refine Qk.region (by kernel_rfl) (fun w'=>w'.cell? ⟨Z.heap.size,0,none⟩=some (.slice aa s.asks.length ca)) 14 U (fun d=>?_);generalize a5:X.drew=wd at r d⊢;clear a5 U;refine ae 0 d ?_;refine ae 1 d ?_;refine ae 2 d ?_;refine ae 7 d ?_;refine ai 3 (fun K b=>?_);go_simp
    go_at_call 21
    refine (aI _ B a G D (p+2) _ 2 rfl r.o.st.rd (by omega) (by omega) Q).mono ?_;rintro e l ⟨q,rfl,hq,k,i⟩;have j:=Kz (r.o.drawn k i);clear k i;dsimp only;refine b.out _ _ (fun _=>j.o.st.box.c0) ?_;clear b K;try simp only[Act.put,upA,upB,upC]
    clear d r;have d:=j.o.st.box.c0;have e4:IntKind.i64.wrap (20+ (q:Int))=20+ (q:Int):=by simp[IntKind.wrap,IntKind.bits,IntKind.signed];omega
    refine Qk.take 4 [5,6,8,9,10,11,12,13,14] (v:= .int .i64 (20+ (q:Int))) (by (simp only[Kw,JW,JX];rfl)) (by kernel_rfl) (by kernel_rfl) (by kernel_rfl) (by kernel_rfl) (by exact fun _ _ _ h=>h) (Or.inl ⟨by rfl, ?_⟩) d ?_
    ·intro u C;try dsimp only at C
     go_simp
     try with_reducible rfl
    try simp only[Act.put,upA,upB,upC]
    refine ai 5 (fun K b=>?_);go_simp
    go_at_call 96
    refine (sG _ ⟨#[110]⟩ _ (20+q) (by push_cast;rfl) (by omega) (by decide)).mono ?_;rintro e w6 ⟨⟨x,rfl,t⟩,h5⟩;have d3:x.size<=300:=by have e1:(⟨#[110]⟩:KC).size=1:=rfl;rw[e1] at t;omega
    subst h5;dsimp only;refine b.out _ _ (fun _=>j.o.st.box.c0) ?_;clear b K;try simp only[Act.put,upA,upB,upC]
    have k7:∀c∈([⟨#[]⟩,⟨#[45]⟩,⟨#[97,44,98]⟩,⟨#[120,32,121]⟩,x,⟨#[97]⟩]:List KC),c.size<=300:=by
     intro c A;simp only[JN,JO,or_false] at A;rcases A with rfl | rfl | rfl | rfl | rfl | rfl <;> first | exact d3 | decide
    refine bG 6 8 (fun K b=>?_) (fun K b=>?_)
    ·rw[Kg (by rfl)];go_simp
     have J:K_ w6 (w6.alloc (.cells #[.string ⟨#[]⟩,.string ⟨#[45]⟩,.string ⟨#[97,44,98]⟩,.string ⟨#[120,32,121]⟩,.string x,.string ⟨#[97]⟩] 9)):=ag _ _;have f:=Kz (j.o.kept J);refine b.out _ _ (fun _=>f.o.st.box.c0) ?_;clear b K;try simp only[Act.put,upA,upB,upC]
     clear d J;refine ai 8 (fun K b=>?_);go_simp
     go_at_call 21
     refine (aI _ B a G D (p+3) _ 6 rfl f.o.st.rd (by omega) (by omega) Q).mono ?_;rintro e wE ⟨S,rfl,k8,k,i⟩;have P:=Kz (f.o.drawn k i);obtain⟨c,A,c6⟩:=pg [⟨#[]⟩,⟨#[45]⟩,⟨#[97,44,98]⟩,⟨#[120,32,121]⟩,x,⟨#[97]⟩] i j.o.st.rd.row.lt S (by show S<6;omega) k7;have lz:w6.heap.size<wE.heap.size:=Nat.lt_of_lt_of_le (by simp) i.size;clear k i;dsimp only;refine b.out _ _ (fun _=>P.o.st.box.c0) ?_;clear b K;try simp only[Act.put,upA,upB,upC]
     have c0:(S:Int)<6:=by omega
     refine af 9 (fun K b=>?_);go_simp
     refine b.out _ _ (fun _=>P.o.st.box.c0) ?_;clear b K;try simp only[Act.put,upA,upB,upC]
     refine af 10 (fun K b=>?_);go_simp
     refine b.out _ _ (fun _=>P.o.st.box.c0) ?_;clear b K;try simp only[Act.put,upA,upB,upC]
     refine af 11 (fun K b=>?_);go_simp
     have Y:K_ wE (wE.alloc (.cells #[.string c] 9)):=ag _ _;have b1:=Kz (P.o.kept Y);have a4:=Kz Y;refine b.out _ _ (fun _=>b1.o.st.box.c0) ?_;clear b K;try simp only[Act.put,upA,upB,upC]
     clear Y;obtain⟨ic,a6,E,F,a7⟩:=aM Tryz.d_;refine af 12 (fun K b=>?_);refine step_append_lies _ rfl (.tmp 65) (.tmp 75) 26 rfl O.heap.size 9 ic _ 1 16 underlying26 a6 E F a7 rfl (by decide) (.slice aa s.asks.length ca) s.asks.length (s.asks.map Value.string) (by simp[Act.eval]) b1.o.st.asks ⟨wE.heap.size,0,none⟩ 1 1 [.string c] (by simp[Act.eval]) rfl (iB wE c) (ib c) (by omega) (by unfold maxLen;omega) (by omega) b1.o.st.kb.size _ rfl ?_;intro g2 f1 w8 a8 W a1 b2;have M:=Kz (P.o.st.ry a4.o W);have h6:=Kz (P.o.nT (x:=c) a4.o a8 W (tX a1) (by omega) c6);have z6:=M.o.row.lt;have y6:=M.o.c0;obtain⟨_,f6⟩:=M.o.cell (o:=0) (by omega);clear a8 W a1 b2;refine b.out _ _ (fun _=>M.o.c0) ?_;clear b K;try simp only[Act.put,upA,upB,upC]
     have d:=M.o.c0;refine ae 13 d ?_;refine af 14 (fun K b=>?_);go_simp
     refine b.out _ _ (fun h=>Ki rfl h) ?_;clear b K;try simp only[Act.put,upA,upB,upC]
     refine ay ?_;go_wp2
     go_meet
     exact⟨cost,_,_,_,p+4,R,by omega,by omega,h6.o⟩
    ·rw[Kg (by rfl)];go_simp
     go_at_call 21
     refine (aI _ B a G D (p+3) _ 6 rfl j.o.st.rd (by omega) (by omega) Q).mono ?_;rintro e w7 ⟨S,rfl,k8,k,i⟩;have f:=Kz (j.o.drawn k i);clear k i;dsimp only;refine b.out _ _ (fun _=>f.o.st.box.c0) ?_;clear b K;try simp only[Act.put,upA,upB,upC]
     clear d;refine ai 6 (fun K b=>?_);go_simp
     have J:K_ w7 (w7.alloc (.cells #[.string ⟨#[]⟩,.string ⟨#[45]⟩,.string ⟨#[97,44,98]⟩,.string ⟨#[120,32,121]⟩,.string x,.string ⟨#[97]⟩] 9)):=ag _ _;have P:=Kz (f.o.kept J);obtain⟨c,A,c6⟩:=pJ w7 9 [⟨#[]⟩,⟨#[45]⟩,⟨#[97,44,98]⟩,⟨#[120,32,121]⟩,x,⟨#[97]⟩] S (by show S<6;omega) k7;clear J;have c2:(w7.alloc (.cells #[.string ⟨#[]⟩,.string ⟨#[45]⟩,.string ⟨#[97,44,98]⟩,.string ⟨#[120,32,121]⟩,.string x,.string ⟨#[97]⟩] 9)).cell? ⟨w7.heap.size,S,none⟩=some (.string c):=A;have lz:w7.heap.size<(w7.alloc (.cells #[.string ⟨#[]⟩,.string ⟨#[45]⟩,.string ⟨#[97,44,98]⟩,.string ⟨#[120,32,121]⟩,.string x,.string ⟨#[97]⟩] 9)).heap.size:=by simp
     clear A;refine b.out _ _ (fun _=>P.o.st.box.c0) ?_;clear b K;try simp only[Act.put,upA,upB,upC]
     generalize c3:w7.alloc (.cells #[.string ⟨#[]⟩,.string ⟨#[45]⟩,.string ⟨#[97,44,98]⟩,.string ⟨#[120,32,121]⟩,.string x,.string ⟨#[97]⟩] 9)=wE at P c2 lz⊢;clear c3;have c0:(S:Int)<6:=by omega
     refine af 9 (fun K b=>?_);go_simp
     refine b.out _ _ (fun _=>P.o.st.box.c0) ?_;clear b K;try simp only[Act.put,upA,upB,upC]
     refine af 10 (fun K b=>?_);go_simp
     refine b.out _ _ (fun _=>P.o.st.box.c0) ?_;clear b K;try simp only[Act.put,upA,upB,upC]
     refine af 11 (fun K b=>?_);go_simp
     have Y:K_ wE (wE.alloc (.cells #[.string c] 9)):=ag _ _;have b1:=Kz (P.o.kept Y);have a4:=Kz Y;refine b.out _ _ (fun _=>b1.o.st.box.c0) ?_;clear b K;try simp only[Act.put,upA,upB,upC]
     clear Y;obtain⟨ic,a6,E,F,a7⟩:=aM Tryz.d_;refine af 12 (fun K b=>?_);refine step_append_lies _ rfl (.tmp 65) (.tmp 75) 26 rfl O.heap.size 9 ic _ 1 16 underlying26 a6 E F a7 rfl (by decide) (.slice aa s.asks.length ca) s.asks.length (s.asks.map Value.string) (by simp[Act.eval]) b1.o.st.asks ⟨wE.heap.size,0,none⟩ 1 1 [.string c] (by simp[Act.eval]) rfl (iB wE c) (ib c) (by omega) (by unfold maxLen;omega) (by omega) b1.o.st.kb.size _ rfl ?_;intro g2 f1 w8 a8 W a1 b2;have M:=Kz (P.o.st.ry a4.o W);have h6:=Kz (P.o.nT (x:=c) a4.o a8 W (tX a1) (by omega) c6);have z6:=M.o.row.lt;have y6:=M.o.c0;obtain⟨_,f6⟩:=M.o.cell (o:=0) (by omega);clear a8 W a1 b2;refine b.out _ _ (fun _=>M.o.c0) ?_;clear b K;try simp only[Act.put,upA,upB,upC]
     have d:=M.o.c0;refine ae 13 d ?_;refine af 14 (fun K b=>?_);go_simp
     refine b.out _ _ (fun h=>Ki rfl h) ?_;clear b K;try simp only[Act.put,upA,upB,upC]
     refine ay ?_;go_wp2
     go_meet
     exact⟨cost,_,_,_,p+4,R,by omega,by omega,h6.o⟩
   ·have r:=Kz (n.o.kept (aG X));have U:=r.o.st.box.c0;have p9:s.asks.length<=900:=by omega
    go_upto_region 19 with fail
    refine Qk.region (by kernel_rfl) (fun w'=>w'.cell? ⟨Z.heap.size,0,none⟩=some (.slice aa s.asks.length ca)) 9 U (fun d=>?_);generalize a5:X.drew=wd at r d⊢;clear a5 U;refine ae 0 d ?_;refine ae 1 d ?_;refine ae 2 d ?_;refine ae 4 d ?_;refine bG 3 5 (fun K b=>?_) (fun K b=>?_)
    ·rw[Kg (by rfl)];go_simp
     have J:K_ wd (wd.alloc (.cells #[.int .i64 (-1),.int .i64 (s.asks.length:Int),.int .i64 0,.int .i64 1] 3)):=ag _ _;have j:=Kz (r.o.kept J);refine b.out _ _ (fun _=>j.o.st.box.c0) ?_;clear b K;try simp only[Act.put,upA,upB,upC]
     clear d J;refine ai 5 (fun K b=>?_);go_simp
     go_at_call 21
     refine (aI _ B a G D (p+2) _ 4 rfl j.o.st.rd (by omega) (by omega) Q).mono ?_;rintro e l ⟨q,rfl,hq,k,i⟩;have f:=Kz (j.o.drawn k i);obtain⟨c,A,E,F⟩:=sI [-1,(s.asks.length:Int),0,1] i r.o.st.rd.row.lt q (by show q<4;omega) (fun c A=>by simp at A;omega);have lz:wd.heap.size<l.heap.size:=Nat.lt_of_lt_of_le (by simp) i.size;clear k i;dsimp only;refine b.out _ _ (fun _=>f.o.st.box.c0) ?_;clear b K;try simp only[Act.put,upA,upB,upC]
     have c0:(q:Int)<4:=by omega
     refine af 6 (fun K b=>?_);go_simp
     refine b.out _ _ (fun _=>f.o.st.box.c0) ?_;clear b K;try simp only[Act.put,upA,upB,upC]
     refine af 7 (fun K b=>?_);go_simp
     refine b.out _ _ (fun _=>f.o.st.box.c0) ?_;clear b K;try simp only[Act.put,upA,upB,upC]
     have d:=f.o.st.box.c0;refine ae 8 d ?_;obtain⟨_,d4⟩:=f.o.st.box.cell (o:=1) (by omega);obtain⟨⟨_,r1⟩,_⟩:=f.o.st.box.cell (o:=1) (by omega);have rz:=f.o.st.box.row.lt;refine af 9 (fun K b=>?_);go_simp
     refine b.out _ _ (fun h=>Ki rfl h) ?_;clear b K;try simp only[Act.put,upA,upB,upC]
     refine ay ?_;go_wp2
     go_meet
     exact⟨cost,_,_,_,p+3,R,by omega,by omega,f.o.on c ⟨E,F⟩⟩
    ·rw[Kg (by rfl)];go_simp
     go_at_call 21
     refine (aI _ B a G D (p+2) _ 4 rfl r.o.st.rd (by omega) (by omega) Q).mono ?_;rintro e l ⟨q,rfl,hq,k,i⟩;have j:=Kz (r.o.drawn k i);clear k i;dsimp only;refine b.out _ _ (fun _=>j.o.st.box.c0) ?_;clear b K;try simp only[Act.put,upA,upB,upC]
     clear d;refine ai 3 (fun K b=>?_);go_simp
     have J:K_ l (l.alloc (.cells #[.int .i64 (-1),.int .i64 (s.asks.length:Int),.int .i64 0,.int .i64 1] 3)):=ag _ _;have f:=Kz (j.o.kept J);obtain⟨c,A,E,F⟩:=uw l 3 [-1,(s.asks.length:Int),0,1] q (by show q<4;omega) (fun c A=>by simp at A;omega);clear J;have c2:(l.alloc (.cells #[.int .i64 (-1),.int .i64 (s.asks.length:Int),.int .i64 0,.int .i64 1] 3)).cell? ⟨l.heap.size,q,none⟩=some (.int .i64 c):=A;have lz:l.heap.size<(l.alloc (.cells #[.int .i64 (-1),.int .i64 (s.asks.length:Int),.int .i64 0,.int .i64 1] 3)).heap.size:=by simp
     clear A;refine b.out _ _ (fun _=>f.o.st.box.c0) ?_;clear b K;try simp only[Act.put,upA,upB,upC]
     generalize c3:l.alloc (.cells #[.int .i64 (-1),.int .i64 (s.asks.length:Int),.int .i64 0,.int .i64 1] 3)=wE at f c2 lz⊢;clear c3;have c0:(q:Int)<4:=by omega
     refine af 6 (fun K b=>?_);go_simp
     refine b.out _ _ (fun _=>f.o.st.box.c0) ?_;clear b K;try simp only[Act.put,upA,upB,upC]
     refine af 7 (fun K b=>?_);go_simp
     refine b.out _ _ (fun _=>f.o.st.box.c0) ?_;clear b K;try simp only[Act.put,upA,upB,upC]
     have d:=f.o.st.box.c0;refine ae 8 d ?_;obtain⟨_,d4⟩:=f.o.st.box.cell (o:=1) (by omega);obtain⟨⟨_,r1⟩,_⟩:=f.o.st.box.cell (o:=1) (by omega);have rz:=f.o.st.box.row.lt;refine af 9 (fun K b=>?_);go_simp
     refine b.out _ _ (fun h=>Ki rfl h) ?_;clear b K;try simp only[Act.put,upA,upB,upC]
     refine ay ?_;go_wp2
     go_meet
     exact⟨cost,_,_,_,p+3,R,by omega,by omega,f.o.on c ⟨E,F⟩⟩
   ·have r:=Kz (n.o.kept (aG X));have U:=r.o.c1;have m7:IntKind.i64.wrap ((L.length:Int)-1)= (L.length:Int)-1:=by simp[IntKind.wrap,IntKind.bits,IntKind.signed];omega
    go_upto_region 21 with fail
    refine Qk.region (by kernel_rfl) (fun w'=>w'.cell? ⟨w1.heap.size,1,none⟩=some (.slice (some ⟨g,0,none⟩) L.length H)) 13 U (fun d=>?_);generalize a5:X.drew=wd at r d⊢;clear a5 U;refine aB 0 d ?_;refine ae 4 d ?_;refine ae 5 d ?_;refine Qk.take 6 [7,10,11,12,13] (v:= .int .i64 ((L.length:Int)-1)) (by (simp only[Kw,JW,JX];rfl)) (by kernel_rfl) (by kernel_rfl) (by kernel_rfl) (by kernel_rfl) (by exact fun _ _ _ h=>h) (Or.inl ⟨by rfl, ?_⟩) d ?_
    ·intro u C;try dsimp only at C
     go_simp
     try with_reducible rfl
    try simp only[Act.put,upA,upB,upC]
    refine ae 8 d ?_;refine bG 7 9 (fun K b=>?_) (fun K b=>?_)
    ·rw[Kg (by rfl)];go_simp
     have J:K_ wd (wd.alloc (.cells #[.int .i64 (-1),.int .i64 (L.length:Int),.int .i64 ((L.length:Int)-1)] 3)):=ag _ _;have j:=Kz (r.o.kept J);refine b.out _ _ (fun _=>j.o.c1) ?_;clear b K;try simp only[Act.put,upA,upB,upC]
     clear d J;refine ai 9 (fun K b=>?_);go_simp
     go_at_call 21
     refine (aI _ B a G D (p+2) _ 3 rfl j.o.st.rd (by omega) (by omega) Q).mono ?_;rintro e l ⟨q,rfl,hq,k,i⟩;have f:=Kz (j.o.drawn k i);obtain⟨c,A,E,F⟩:=sI [-1,(L.length:Int),(L.length:Int)-1] i r.o.st.rd.row.lt q (by show q<3;omega) (fun c A=>by simp at A;omega);have lz:wd.heap.size<l.heap.size:=Nat.lt_of_lt_of_le (by simp) i.size;clear k i;dsimp only;refine b.out _ _ (fun _=>f.o.c1) ?_;clear b K;try simp only[Act.put,upA,upB,upC]
     have c0:(q:Int)<3:=by omega
     refine af 10 (fun K b=>?_);go_simp
     refine b.out _ _ (fun _=>f.o.c1) ?_;clear b K;try simp only[Act.put,upA,upB,upC]
     refine af 11 (fun K b=>?_);go_simp
     refine b.out _ _ (fun _=>f.o.c1) ?_;clear b K;try simp only[Act.put,upA,upB,upC]
     have d:=f.o.c1;refine ae 12 d ?_;obtain⟨_,d4⟩:=f.o.st.box.cell (o:=3) (by omega);obtain⟨⟨_,r1⟩,_⟩:=f.o.st.box.cell (o:=3) (by omega);have rz:=f.o.st.box.row.lt;refine af 13 (fun K b=>?_);go_simp
     refine b.out _ _ (fun h=>Ki rfl h) ?_;clear b K;try simp only[Act.put,upA,upB,upC]
     refine ay ?_;go_wp2
     go_meet
     exact⟨cost,_,_,_,p+3,R,by omega,by omega,f.o.els c (mD ⟨E,F⟩)⟩
    ·rw[Kg (by rfl)];go_simp
     go_at_call 21
     refine (aI _ B a G D (p+2) _ 3 rfl r.o.st.rd (by omega) (by omega) Q).mono ?_;rintro e l ⟨q,rfl,hq,k,i⟩;have j:=Kz (r.o.drawn k i);clear k i;dsimp only;refine b.out _ _ (fun _=>j.o.c1) ?_;clear b K;try simp only[Act.put,upA,upB,upC]
     clear d;refine ai 7 (fun K b=>?_);go_simp
     have J:K_ l (l.alloc (.cells #[.int .i64 (-1),.int .i64 (L.length:Int),.int .i64 ((L.length:Int)-1)] 3)):=ag _ _;have f:=Kz (j.o.kept J);obtain⟨c,A,E,F⟩:=uw l 3 [-1,(L.length:Int),(L.length:Int)-1] q (by show q<3;omega) (fun c A=>by simp at A;omega);clear J;have c2:(l.alloc (.cells #[.int .i64 (-1),.int .i64 (L.length:Int),.int .i64 ((L.length:Int)-1)] 3)).cell? ⟨l.heap.size,q,none⟩=some (.int .i64 c):=A;have lz:l.heap.size<(l.alloc (.cells #[.int .i64 (-1),.int .i64 (L.length:Int),.int .i64 ((L.length:Int)-1)] 3)).heap.size:=by simp
     clear A;refine b.out _ _ (fun _=>f.o.c1) ?_;clear b K;try simp only[Act.put,upA,upB,upC]
     generalize c3:l.alloc (.cells #[.int .i64 (-1),.int .i64 (L.length:Int),.int .i64 ((L.length:Int)-1)] 3)=wE at f c2 lz⊢;clear c3;have c0:(q:Int)<3:=by omega
     refine af 10 (fun K b=>?_);go_simp
     refine b.out _ _ (fun _=>f.o.c1) ?_;clear b K;try simp only[Act.put,upA,upB,upC]
     refine af 11 (fun K b=>?_);go_simp
     refine b.out _ _ (fun _=>f.o.c1) ?_;clear b K;try simp only[Act.put,upA,upB,upC]
     have d:=f.o.c1;refine ae 12 d ?_;obtain⟨_,d4⟩:=f.o.st.box.cell (o:=3) (by omega);obtain⟨⟨_,r1⟩,_⟩:=f.o.st.box.cell (o:=3) (by omega);have rz:=f.o.st.box.row.lt;refine af 13 (fun K b=>?_);go_simp
     refine b.out _ _ (fun h=>Ki rfl h) ?_;clear b K;try simp only[Act.put,upA,upB,upC]
     refine ay ?_;go_wp2
     go_meet
     exact⟨cost,_,_,_,p+3,R,by omega,by omega,f.o.els c (mD ⟨E,F⟩)⟩
   ·have r:=Kz (n.o.kept (aG X));have U:=r.o.c1;have m7:IntKind.i64.wrap ((L.length:Int)-1)= (L.length:Int)-1:=by simp[IntKind.wrap,IntKind.bits,IntKind.signed];omega
    go_upto_region 23 with fail
    refine Qk.region (by kernel_rfl) (fun w'=>w'.cell? ⟨w1.heap.size,1,none⟩=some (.slice (some ⟨g,0,none⟩) L.length H)) 13 U (fun d=>?_);generalize a5:X.drew=wd at r d⊢;clear a5 U;refine aB 0 d ?_;refine ae 4 d ?_;refine ae 5 d ?_;refine Qk.take 6 [7,10,11,12,13] (v:= .int .i64 ((L.length:Int)-1)) (by (simp only[Kw,JW,JX];rfl)) (by kernel_rfl) (by kernel_rfl) (by kernel_rfl) (by kernel_rfl) (by exact fun _ _ _ h=>h) (Or.inl ⟨by rfl, ?_⟩) d ?_
    ·intro u C;try dsimp only at C
     go_simp
     try with_reducible rfl
    try simp only[Act.put,upA,upB,upC]
    refine ae 8 d ?_;refine bG 7 9 (fun K b=>?_) (fun K b=>?_)
    ·rw[Kg (by rfl)];go_simp
     have J:K_ wd (wd.alloc (.cells #[.int .i64 (-2),.int .i64 (-1),.int .i64 (L.length:Int),.int .i64 ((L.length:Int)-1)] 3)):=ag _ _;have j:=Kz (r.o.kept J);refine b.out _ _ (fun _=>j.o.c1) ?_;clear b K;try simp only[Act.put,upA,upB,upC]
     clear d J;refine ai 9 (fun K b=>?_);go_simp
     go_at_call 21
     refine (aI _ B a G D (p+2) _ 4 rfl j.o.st.rd (by omega) (by omega) Q).mono ?_;rintro e l ⟨q,rfl,hq,k,i⟩;have f:=Kz (j.o.drawn k i);obtain⟨c,A,E,F⟩:=sI [-2, -1,(L.length:Int),(L.length:Int)-1] i r.o.st.rd.row.lt q (by show q<4;omega) (fun c A=>by simp at A;omega);have lz:wd.heap.size<l.heap.size:=Nat.lt_of_lt_of_le (by simp) i.size;clear k i;dsimp only;refine b.out _ _ (fun _=>f.o.c1) ?_;clear b K;try simp only[Act.put,upA,upB,upC]
     have c0:(q:Int)<4:=by omega
     refine af 10 (fun K b=>?_);go_simp
     refine b.out _ _ (fun _=>f.o.c1) ?_;clear b K;try simp only[Act.put,upA,upB,upC]
     refine af 11 (fun K b=>?_);go_simp
     refine b.out _ _ (fun _=>f.o.c1) ?_;clear b K;try simp only[Act.put,upA,upB,upC]
     have d:=f.o.c1;refine ae 12 d ?_;obtain⟨_,d4⟩:=f.o.st.box.cell (o:=4) (by omega);obtain⟨⟨_,r1⟩,_⟩:=f.o.st.box.cell (o:=4) (by omega);have rz:=f.o.st.box.row.lt;refine af 13 (fun K b=>?_);go_simp
     refine b.out _ _ (fun h=>Ki rfl h) ?_;clear b K;try simp only[Act.put,upA,upB,upC]
     refine ay ?_;go_wp2
     go_meet
     exact⟨cost,_,_,_,p+3,R,by omega,by omega,f.o.fall c ⟨E,F⟩⟩
    ·rw[Kg (by rfl)];go_simp
     go_at_call 21
     refine (aI _ B a G D (p+2) _ 4 rfl r.o.st.rd (by omega) (by omega) Q).mono ?_;rintro e l ⟨q,rfl,hq,k,i⟩;have j:=Kz (r.o.drawn k i);clear k i;dsimp only;refine b.out _ _ (fun _=>j.o.c1) ?_;clear b K;try simp only[Act.put,upA,upB,upC]
     clear d;refine ai 7 (fun K b=>?_);go_simp
     have J:K_ l (l.alloc (.cells #[.int .i64 (-2),.int .i64 (-1),.int .i64 (L.length:Int),.int .i64 ((L.length:Int)-1)] 3)):=ag _ _;have f:=Kz (j.o.kept J);obtain⟨c,A,E,F⟩:=uw l 3 [-2, -1,(L.length:Int),(L.length:Int)-1] q (by show q<4;omega) (fun c A=>by simp at A;omega);clear J;have c2:(l.alloc (.cells #[.int .i64 (-2),.int .i64 (-1),.int .i64 (L.length:Int),.int .i64 ((L.length:Int)-1)] 3)).cell? ⟨l.heap.size,q,none⟩=some (.int .i64 c):=A;have lz:l.heap.size<(l.alloc (.cells #[.int .i64 (-2),.int .i64 (-1),.int .i64 (L.length:Int),.int .i64 ((L.length:Int)-1)] 3)).heap.size:=by simp
     clear A;refine b.out _ _ (fun _=>f.o.c1) ?_;clear b K;try simp only[Act.put,upA,upB,upC]
     generalize c3:l.alloc (.cells #[.int .i64 (-2),.int .i64 (-1),.int .i64 (L.length:Int),.int .i64 ((L.length:Int)-1)] 3)=wE at f c2 lz⊢;clear c3;have c0:(q:Int)<4:=by omega
     refine af 10 (fun K b=>?_);go_simp
     refine b.out _ _ (fun _=>f.o.c1) ?_;clear b K;try simp only[Act.put,upA,upB,upC]
     refine af 11 (fun K b=>?_);go_simp
     refine b.out _ _ (fun _=>f.o.c1) ?_;clear b K;try simp only[Act.put,upA,upB,upC]
     have d:=f.o.c1;refine ae 12 d ?_;obtain⟨_,d4⟩:=f.o.st.box.cell (o:=4) (by omega);obtain⟨⟨_,r1⟩,_⟩:=f.o.st.box.cell (o:=4) (by omega);have rz:=f.o.st.box.row.lt;refine af 13 (fun K b=>?_);go_simp
     refine b.out _ _ (fun h=>Ki rfl h) ?_;clear b K;try simp only[Act.put,upA,upB,upC]
     refine ay ?_;go_wp2
     go_meet
     exact⟨cost,_,_,_,p+3,R,by omega,by omega,f.o.fall c ⟨E,F⟩⟩
   ·have r:=Kz (n.o.kept (aG X));have U:=r.o.st.box.c2;have y1:=r.o.c1;have q0:IntKind.i64.wrap ((L.length:Int)+2)= (L.length:Int)+2:=by simp[IntKind.wrap,IntKind.bits,IntKind.signed];omega
    go_upto_region 25 with fail
    refine Qk.region (by kernel_rfl) (fun w'=>w'.cell? ⟨Z.heap.size,2,none⟩=some (.slice ac s.cases.length cc)/\w'.cell? ⟨w1.heap.size,1,none⟩=some (.slice (some ⟨g,0,none⟩) L.length H)) 17 ⟨U,y1⟩ (fun d=>?_);generalize a5:X.drew=wd at r d⊢;clear a5 U y1;refine ae 0 d ?_;refine ae 1 d ?_;refine ae 2 d ?_;refine aB 6 d ?_;refine Qk.take 10 [11,12,13,14,15,16,17] (v:= .int .i64 ((L.length:Int)+2)) (by (simp only[Kw,JW,JX];rfl)) (by kernel_rfl) (by kernel_rfl) (by kernel_rfl) (by kernel_rfl) (by exact fun _ _ _ h=>h) (Or.inl ⟨by rfl, ?_⟩) d ?_
    ·intro u C;try dsimp only at C
     go_simp
     try with_reducible rfl
    try simp only[Act.put,upA,upB,upC]
    refine ai 3 (fun K b=>?_);go_simp
    go_at_call 21
    refine (aI _ B a G D (p+2) _ 2 rfl r.o.st.rd (by omega) (by omega) Q).mono ?_;rintro e l ⟨q,rfl,hq,k,i⟩;have j:=Kz (r.o.drawn k i);clear k i;dsimp only;refine b.out _ _ (fun _=>⟨j.o.st.box.c2,j.o.c1⟩) ?_;clear b K;try simp only[Act.put,upA,upB,upC]
    clear d r;have d:=(show _/\_ from ⟨j.o.st.box.c2,j.o.c1⟩);have e4:IntKind.i64.wrap (200+ (q:Int))=200+ (q:Int):=by simp[IntKind.wrap,IntKind.bits,IntKind.signed];omega
    refine Qk.take 4 [5,11,12,13,14,15,16,17] (v:= .int .i64 (200+ (q:Int))) (by (simp only[Kw,JW,JX];rfl)) (by kernel_rfl) (by kernel_rfl) (by kernel_rfl) (by kernel_rfl) (by exact fun _ _ _ h=>h) (Or.inl ⟨by rfl, ?_⟩) d ?_
    ·intro u C;try dsimp only at C
     go_simp
     try with_reducible rfl
    try simp only[Act.put,upA,upB,upC]
    refine ai 5 (fun K b=>?_);go_simp
    go_at_call 96
    refine (sG _ ⟨#[116]⟩ _ (200+q) (by push_cast;rfl) (by omega) (by decide)).mono ?_;rintro e w6 ⟨⟨x,rfl,t⟩,h5⟩;have d3:x.size<=300:=by have e1:(⟨#[116]⟩:KC).size=1:=rfl;rw[e1] at t;omega
    subst h5;dsimp only;refine b.out _ _ (fun _=>⟨j.o.st.box.c2,j.o.c1⟩) ?_;clear b K;try simp only[Act.put,upA,upB,upC]
    refine ai 11 (fun K b=>?_);go_simp
    go_at_call 21
    refine (aI _ B a G D (p+3) _ (L.length+2) (by push_cast;rfl) j.o.st.rd (by omega) (by omega) Q).mono ?_;rintro e w7 ⟨S,rfl,k8,k9,l0⟩;have f:=Kz (j.o.drawn k9 l0);clear k9 l0;dsimp only;refine b.out _ _ (fun _=>⟨f.o.st.box.c2,f.o.c1⟩) ?_;clear b K;try simp only[Act.put,upA,upB,upC]
    clear d;have d:=(show _/\_ from ⟨f.o.st.box.c2,f.o.c1⟩);have q1:IntKind.i64.wrap ((S:Int)-1)= (S:Int)-1:=by simp[IntKind.wrap,IntKind.bits,IntKind.signed];omega
    refine Qk.take 12 [13,14,15,16,17] (v:= .int .i64 ((S:Int)-1)) (by (simp only[Kw,JW,JX];rfl)) (by kernel_rfl) (by kernel_rfl) (by kernel_rfl) (by kernel_rfl) (by exact fun _ _ _ h=>h) (Or.inl ⟨by rfl, ?_⟩) d ?_
    ·intro u C;try dsimp only at C
     go_simp
     try with_reducible rfl
    try simp only[Act.put,upA,upB,upC]
    refine ae 13 d ?_;refine af 14 (fun K b=>?_);go_simp
    have Y:K_ w7 (w7.alloc (.cells #[.string x,.int .i64 ((S:Int)-1)] 177)):=ag _ _;have P:=Kz (f.o.kept Y);have a4:=Kz Y;refine b.out _ _ (fun _=>⟨P.o.st.box.c2,P.o.c1⟩) ?_;clear b K;try simp only[Act.put,upA,upB,upC]
    clear d Y;obtain⟨ic,a6,E,F,a7⟩:=aM Tryz.om;refine af 15 (fun K b=>?_);refine step_append_lies _ rfl (.tmp 122) (.tmp 135) 81 rfl O.heap.size 177 ic _ 2 24 underlying81 a6 E F a7 rfl (by decide) (.slice ac s.cases.length cc) s.cases.length (aT s.cases) (by simp[Act.eval]) P.o.st.cases ⟨w7.heap.size,0,none⟩ 1 1 [.string x,.int .i64 ((S:Int)-1)] (by simp[Act.eval]) rfl (fun a2 u C=>by rw[JL];exact X_ w7 #[.string x,.int .i64 ((S:Int)-1)] 177 a2 u (by simpa using C)) (fun u C=>by simp at C;rcases C with rfl | rfl <;> rfl) (by omega) (by unfold maxLen;omega) (by omega) P.o.st.kb.size _ rfl ?_;intro g2 f1 w8 a8 W a1 b2;have M:=Kz (f.o.st.yL a4.o W);have b1:=Kz (f.o.qw (x:=⟨x,(S:Int)-1⟩) a4.o a8 W (tX a1) (by omega) ⟨d3,by show -1000<=(S:Int)-1;omega,by show (S:Int)-1<=1000;omega⟩);have b4:=Kz (f.o.GM a4.o W);have z6:=M.o.row.lt;have y6:=M.o.c2;obtain⟨_,f6⟩:=M.o.cell (o:=2) (by omega);clear a8 W a1 b2;refine b.out _ _ (fun _=>⟨M.o.c2,b4.o⟩) ?_;clear b K;try simp only[Act.put,upA,upB,upC]
    have d:=(show _/\_ from ⟨M.o.c2,b4.o⟩);refine ae 16 d ?_;refine af 17 (fun K b=>?_);go_simp
    refine b.out _ _ (fun h=>Ki rfl h) ?_;clear b K;try simp only[Act.put,upA,upB,upC]
    refine ay ?_;go_wp2
    go_meet
    exact⟨cost,_,_,_,p+4,R,by omega,by omega,b1.o⟩
   ·go_wp2_with fail
    refine (aI _ B a G D (p+2) _ 2 rfl n.o.st.rd (by omega) (by omega) Q).mono ?_;rintro e l ⟨q,rfl,hq,k,i⟩;have j:=Kz (n.o.drawn k i);clear k i f0 y5 y6 y3 f5 f6 f3 h4;go_wp2
    go_loopg [] (5+q-s.cases.length) (fun gg wr=>∃(vc:KI) (y:Xq),gg=5+q-y.cases.length/\dM (mN+10) O wr B w1.heap.size Z.heap.size a G D (p+3) cost (.slice (some ⟨g,0,none⟩) L.length H) L xs V (.slice aa s.asks.length ca) vc y)
    case atStart=>exact⟨_,s,rfl,j.o⟩
    case round=>
     clear j;obtain⟨vc,y,l1,hS⟩:=hrel;have N:=Kz hS;clear hS;obtain⟨h7,h8,rfl⟩:=ax N.o.st.cases;have y2:=N.o.st.box.c2;have yz:=N.o.st.box.row.lt;by_cases l2:(y.cases.length:Int)<5+ (q:Int)
     ·have k1:K_ wr (wr.alloc (.cells #[.string ⟨#[118,48,40,41]⟩,.int .i64 0] 177)):=ag _ _;have a3:=Kz k1;have b3:=Kz (N.o.kept k1).st.cases;have h9:O.heap.size<=(wr.alloc (.cells #[.string ⟨#[118,48,40,41]⟩,.int .i64 0] 177)).heap.size:=(N.o.kept k1).st.kb.size;have i0:Hid (∀a2 u,([.string ⟨#[118,48,40,41]⟩,.int .i64 0]:List KI)[a2]? =some u->(wr.alloc (.cells #[.string ⟨#[118,48,40,41]⟩,.int .i64 0] 177)).cell? ((⟨wr.heap.size,0,none⟩:Addr).add a2)=some u):=fun a2 u C=>by rw[JL];exact X_ wr #[.string ⟨#[118,48,40,41]⟩,.int .i64 0] 177 a2 u C
      have d5:Hid (∀u∈([.string ⟨#[118,48,40,41]⟩,.int .i64 0]:List KI),u.oneCell'=true):=fun u C=>by simp at C;rcases C with rfl | rfl <;> rfl
      obtain⟨ic,a6,E,F,a7⟩:=aM Tryz.om;clear k1;go_wp2_with (at_builtin;refine wpList_append_lies _ rfl (.tmp 149) (.tmp 151) 81 rfl O.heap.size 177 ic _ 2 24 underlying81 a6 E F a7 rfl (by decide) (.slice h7 y.cases.length h8) y.cases.length (aT y.cases) rfl b3.o ⟨wr.heap.size,0,none⟩ 1 1 [.string ⟨#[118,48,40,41]⟩,.int .i64 0] rfl rfl i0.o d5.o (by omega) (by unfold maxLen;omega) (by omega) h9 _ rfl ?_;intro g2 f1 w2 c7 a9 a1 b2;have b5:=N.o.st.yL a3.o a9;have y4:=b5.c2;have z2:=b5.row.lt;obtain⟨_,m8⟩:=b5.cell (o:=2) (by omega);have i1:=Kz c7;have i2:=Kz a9;have f2:=Kz a1;clear c7 a9 b5 a1 b2)
      go_roundg (gk-1)
      case measure=>omega
      case rel=>exact⟨_,{y with cases:=y.cases++ [⟨⟨#[118,48,40,41]⟩,0⟩]},by show gk-1=5+q-(y.cases++ [_]).length;rw[JH];show gk-1=5+q-(y.cases.length+1);omega,N.o.qw (x:=⟨⟨#[118,48,40,41]⟩,0⟩) a3.o i1.o i2.o (tX f2.o) (by omega) ⟨by decide,by decide,by decide⟩⟩
     ·go_wp2
      go_meet
      exact⟨cost,_,_,y,p+3,R,by omega,by omega,N.o⟩
   ·go_wp2_with fail
    refine (aI _ B a G D (p+2) _ 2 rfl n.o.st.rd (by omega) (by omega) Q).mono ?_;rintro e l ⟨q,rfl,hq,k,i⟩;have j:=Kz (n.o.drawn k i);clear k i f0 y5 y6 y3 f5 f6 f3 h4;go_wp2
    go_loopg [10] (5+q-s.asks.length) (fun gg x wr=>∃(b6:Nat) (va:KI) (y:Xq),x= .int .i64 (b6:Int)/\gg=5+q-y.asks.length/\b6+s.asks.length=y.asks.length/\dM (mN+10) O wr B w1.heap.size Z.heap.size a G D (p+3) cost (.slice (some ⟨g,0,none⟩) L.length H) L xs V va (.slice ac s.cases.length cc) y)
    case atStart=>exact⟨0,_,s,rfl,rfl,by omega,j.o⟩
    case round=>
     clear j;obtain⟨b6,va,y,rfl,l1,hi,hS⟩:=hrel;have⟨N,HI⟩:=aD hS hi;clear hS hi;obtain⟨f4,f7,rfl⟩:=ax N.o.st.asks;have y2:=N.o.st.box.c0;have yz:=N.o.st.box.row.lt;by_cases l2:(y.asks.length:Int)<5+ (q:Int)
     ·have m9:b6<10:=by have:=HI.o;omega
      have f8:=Kz (N.o.kept (aG wr));have U:=f8.o.st.box.c0;go_upto_region 35 with fail
      refine Qk.region (by kernel_rfl) (fun w'=>w'.cell? ⟨Z.heap.size,0,none⟩=some (.slice f4 y.asks.length f7)) 8 U (fun d=>?_);generalize a5:wr.drew=wd at f8 d⊢;clear a5 U;refine ae 0 d ?_;refine ae 1 d ?_;refine ae 2 d ?_;refine ai 3 (fun K b=>?_);go_simp
      go_at_call 127
      refine (qP _ b6 m9).mono ?_;rintro e f9 ⟨i3,rfl,ht,l3⟩;have d6:=Kz (f8.o.kept l3);clear l3;dsimp only;refine b.out _ _ (fun _=>d6.o.st.box.c0) ?_;clear b K;try simp only[Act.put,upA,upB,upC]
      clear d f8;have d:=d6.o.st.box.c0;obtain⟨tx,l4⟩:∃tx:KC,(⟨#[109,97,110,121]⟩:KC)++i3=tx:=⟨_,rfl⟩;have n0:tx.size<=300:=by rw[<-l4,ByteArray.size_append];show 4+i3.size<=300;omega
      have f5:¬9223372036854775807<4+i3.size:=by omega
      refine Qk.take 4 [5,6,7,8] (v:= .string tx) (by (simp only[Kw,JW,JX];rfl)) (by kernel_rfl) (by kernel_rfl) (by kernel_rfl) (by kernel_rfl) (by exact fun _ _ _ h=>h) (Or.inl ⟨by rfl, ?_⟩) d ?_
      ·intro u C;try dsimp only at C
       go_simp
       try with_reducible rfl
      try simp only[Act.put,upA,upB,upC]
      clear l4 f5 ht;refine af 5 (fun K b=>?_);go_simp
      have Y:K_ f9 (f9.alloc (.cells #[.string tx] 9)):=ag _ _;have i4:=Kz (d6.o.kept Y);have a4:=Kz Y;refine b.out _ _ (fun _=>i4.o.st.box.c0) ?_;clear b K;try simp only[Act.put,upA,upB,upC]
      clear Y d;obtain⟨ic,a6,E,F,a7⟩:=aM Tryz.d_;refine af 6 (fun K b=>?_);refine step_append_lies _ rfl (.tmp 167) (.tmp 171) 26 rfl O.heap.size 9 ic _ 1 16 underlying26 a6 E F a7 rfl (by decide) (.slice f4 y.asks.length f7) y.asks.length (y.asks.map Value.string) (by simp[Act.eval]) i4.o.st.asks ⟨f9.heap.size,0,none⟩ 1 1 [.string tx] (by simp[Act.eval]) rfl (iB f9 tx) (ib tx) (by omega) (by unfold maxLen;omega) (by omega) i4.o.st.kb.size _ rfl ?_;intro g2 f1 w8 a8 W a1 b2;have M:=Kz (d6.o.st.ry a4.o W);have n1:=Kz (d6.o.nT (x:=tx) a4.o a8 W (tX a1) (by omega) n0);have z6:=M.o.row.lt;have y6:=M.o.c0;obtain⟨_,f6⟩:=M.o.cell (o:=0) (by omega);clear a8 W a1 b2;refine b.out _ _ (fun _=>M.o.c0) ?_;clear b K;try simp only[Act.put,upA,upB,upC]
      have d:=M.o.c0;refine ae 7 d ?_;refine af 8 (fun K b=>?_);go_simp
      refine b.out _ _ (fun h=>Ki rfl h) ?_;clear b K;try simp only[Act.put,upA,upB,upC]
      refine ay ?_;go_wp2
      go_roundg (gk-1)
      case measure=>omega
      case rel=>exact⟨b6+1,_,{y with asks:=y.asks++ [tx]},by go_num,by show gk-1=5+q-(y.asks++ [_]).length;rw[JH];show gk-1=5+q-(y.asks.length+1);omega,by show b6+1+s.asks.length= (y.asks++ [_]).length;rw[JH];have:=HI.o;show b6+1+s.asks.length=y.asks.length+1;omega,n1.o⟩
     ·go_wp2
      go_meet
      exact⟨cost,_,_,y,p+3,R,by omega,by omega,N.o⟩
   ·have i5:=Kz (n.o.act k6.o);go_wp2_with fail
    refine (aI _ B a G D (p+2) _ 2 rfl i5.o.rd (by omega) (by omega) Q).mono ?_;rintro e l ⟨q,rfl,hq,k,i⟩;have f2:=Kz (i5.o.drawn k i);clear k i f0 y5 y6 y3 f5 f6 f3 h4 i5;go_wp2
    go_loopg [] (20+q-L.length) (fun gg wr=>∃(v':KI) (L':List Xq) (i6:List KI),gg=20+q-L'.length/\L'.length<=21/\jc (mN+10) O wr B w1.heap.size a G D (p+3) cost v' L' i6)
    case atStart=>exact⟨_,L,xs,rfl,hL,f2.o⟩
    case round=>
     clear f2;obtain⟨v',L',i6,l1,n2,hS⟩:=hrel;have N:=Kz hS;clear hS;obtain⟨av,d1,rfl⟩:=ax N.o.own;have y1:=N.o.c1;have yz:=N.o.row.lt;by_cases l2:(L'.length:Int)<20+ (q:Int)
     ·have k1:K_ wr (wr.alloc (.cells #[.slice none 0 0,.int .i64 0,.slice none 0 0,.int .i64 0,.int .i64 0,.bool true,.bool false,.string ⟨#[]⟩] 83)):=ag _ _;have a3:=Kz k1;have b3:=Kz (N.o.kept k1).own;have h9:O.heap.size<=(wr.alloc (.cells #[.slice none 0 0,.int .i64 0,.slice none 0 0,.int .i64 0,.int .i64 0,.bool true,.bool false,.string ⟨#[]⟩] 83)).heap.size:=(N.o.kept k1).kb.size;have i0:Hid (∀a2 u,([.slice none 0 0,.int .i64 0,.slice none 0 0,.int .i64 0,.int .i64 0,.bool true,.bool false,.string ⟨#[]⟩]:List KI)[a2]? =some u->(wr.alloc (.cells #[.slice none 0 0,.int .i64 0,.slice none 0 0,.int .i64 0,.int .i64 0,.bool true,.bool false,.string ⟨#[]⟩] 83)).cell? ((⟨wr.heap.size,0,none⟩:Addr).add a2)=some u):=fun a2 u C=>by rw[JL];exact X_ wr #[.slice none 0 0,.int .i64 0,.slice none 0 0,.int .i64 0,.int .i64 0,.bool true,.bool false,.string ⟨#[]⟩] 83 a2 u C
      have d5:Hid (∀u∈([.slice none 0 0,.int .i64 0,.slice none 0 0,.int .i64 0,.int .i64 0,.bool true,.bool false,.string ⟨#[]⟩]:List KI),u.oneCell'=true):=iF ⟨[],0,[],0,0,true,false,⟨#[]⟩⟩ none 0 none 0;obtain⟨ic,a6,E,F,a7⟩:=aM Tryz.jB;clear k1;go_wp2_with (at_builtin;refine wpList_append_own _ rfl (.tmp 185) (.tmp 187) 75 rfl O.heap.size 83 ic _ 8 96 underlying75 a6 E F a7 rfl (by decide) (.slice av L'.length d1) L'.length i6 rfl b3.o ⟨wr.heap.size,0,none⟩ 1 1 [.slice none 0 0,.int .i64 0,.slice none 0 0,.int .i64 0,.int .i64 0,.bool true,.bool false,.string ⟨#[]⟩] rfl rfl i0.o d5.o (by unfold maxLen;omega) (by omega) h9 ?_;intro v2 w2 c7 a9 _;have b5:=N.o.fw a3.o a9;have z2:=b5.2.lt;obtain⟨⟨_,y2⟩,m8⟩:=b5.2.row.at (i:=1) (by omega);have i1:=Kz c7;obtain⟨q2,q3,rfl⟩:=ax c7;have i2:=Kz a9;clear c7 a9 b5)
      go_roundg (gk-1)
      case measure=>omega
      case rel=>exact⟨_,L'++ [⟨[],0,[],0,0,true,false,⟨#[]⟩⟩],_,by rw[JH];show gk-1=20+q-(L'.length+1);omega,by rw[JH];show L'.length+1<=21;omega,N.o.push (s:=⟨[],0,[],0,0,true,false,⟨#[]⟩⟩) (cs:=[.slice none 0 0,.int .i64 0,.slice none 0 0,.int .i64 0,.int .i64 0,.bool true,.bool false,.string ⟨#[]⟩]) a3.o ⟨none,0,none,0,rfl,.inl rfl,.inl rfl,IZ _⟩ ⟨by simp,fun x t=>by simp at t,⟨by show (-1000:Int)<=0;omega,by show (0:Int)<=1000;omega⟩,by simp,fun x t=>by simp at t,mD ⟨by show (-1000:Int)<=0;omega,by show (0:Int)<=1000;omega⟩,⟨by show (-1000:Int)<=0;omega,by show (0:Int)<=1000;omega⟩,by decide⟩ (jv (s:=⟨[],0,[],0,0,true,false,⟨#[]⟩⟩) (fun _=>⟨rfl,rfl⟩) (fun _=>⟨rfl,rfl⟩)) i1.o i2.o⟩
     ·have T:=Kz N.o.fin;have I:=Kz (d7.o.but T.o.kb (by omega));have o0:=T.o.c0;obtain⟨⟨_,x0⟩,g5⟩:=I.o.row.at (i:=0) (by omega);obtain⟨⟨_,x1⟩,g1⟩:=I.o.row.at (i:=1) (by omega);have xz:=I.o.lt;go_wp2_with fail
      have hR:=Jc wr (w.heap.size+1) 0 [.int .i64 cost,.slice av L'.length d1] (I.o.row.there (o:=0) (m:=2) (IZ _));exact Zx [.int .i64 cost,.slice av L'.length d1] _ results97 rfl hR underlying77 rfl Tryz.gY rfl (T.o.ends I.o (by omega) k0 d8.o rfl (by omega) (by omega) n2 R)
   ·have o1:=n.o.c1;have oz:=n.o.row.lt;obtain⟨_,fo⟩:=n.o.row.row.at (i:=1) (by omega);have T:=Kz n.o.cut;have I:=Kz (d7.o.but T.o.kb (by omega));have o0:=T.o.c0;have n3:=T.o.c1;have n4:=T.o.row.lt;obtain⟨⟨_,x0⟩,g5⟩:=I.o.row.at (i:=0) (by omega);obtain⟨⟨_,x1⟩,g1⟩:=I.o.row.at (i:=1) (by omega);have xz:=I.o.lt;have q4:(V:Int)<=(H:Int):=by omega
    go_wp2_with fail
    have hR:=Jc (X.setCell ⟨w1.heap.size,1,none⟩ (.slice (some ⟨g,0,none⟩) V H)) (w.heap.size+1) 0 [.int .i64 cost,.slice (some ⟨g,0,none⟩) V H] (I.o.row.there (o:=0) (m:=2) (IZ _));exact Zx [.int .i64 cost,.slice (some ⟨g,0,none⟩) V H] _ results97 rfl hR underlying77 rfl Tryz.gY rfl (T.o.ends I.o (by omega) k0 d8.o rfl (by omega) (by omega) (by rw[Jt];omega) R)
   ·go_wp2
    go_meet
    exact⟨cost,_,_,_,p+2,R,by omega,by omega,n.o.els _ (in64_wrap64 _)⟩
  case rest=>
   clear n k6 f0;obtain⟨l5,va,vc,y,p',n5,q5,q6,hX⟩:=hcut;obtain⟨f4,f7,rfl⟩:=ax hX.st.asks;obtain⟨h7,h8,rfl⟩:=ax hX.st.cases;have n:=Kz hX;clear hX;have o1:=n.o.c1;have oz:=n.o.row.lt;have sz:=n.o.st.box.row.lt;obtain⟨cs,b9⟩:=ah (y.cells f4 f7 h7 h8);have g0:cs.length=8:=by rw[b9];rfl
   have l6:cs.toArray.all (·.oneCell')=true:=by rw[b9];exact Xq.one y _ _ _ _
   have l7:wc.rangeAt Z.heap.size 0 cs:=by
    rw[b9];have hb:=n.o.st.box;intro a2 x t;rw[JA]
    match a2,t with
    | 0,t=>simp[Xq.cells] at t;subst t;exact hb.c0
    | 1,t=>simp[Xq.cells] at t;subst t;exact hb.c1
    | 2,t=>simp[Xq.cells] at t;subst t;exact hb.c2
    | 3,t=>simp[Xq.cells] at t;subst t;exact hb.c3
    | 4,t=>simp[Xq.cells] at t;subst t;exact hb.c4
    | 5,t=>simp[Xq.cells] at t;subst t;exact hb.c5
    | 6,t=>simp[Xq.cells] at t;subst t;exact hb.c6
    | 7,t=>simp[Xq.cells] at t;subst t;exact hb.c7
    | a2+8,t=>simp[Xq.cells] at t
   have n6:=Kz l7;have a9:au wc g 83 (H*8):=by
    rcases n.o.own.2 with⟨e,_⟩|⟨g',d1,n7,e,_,n8,_,_,n9,_⟩
    ·simp at e
    ·simp only[JJ,JI,Kv,and_true,true_and] at e;obtain⟨rfl,rfl⟩:=e;exact⟨n7,n8,n9⟩
   have gz:=a9.lt;have l8:wc.there g (V*8) cs.toArray.size:=by simpa[g0] using a9.row.there (o:=V*8) (m:=8) (by omega)
   have l9:(prog.info? 83).map (·.size)=some cs.toArray.size:=by rw[Tryz.xx];simp[g0]
   have m0:(prog.info? 83).map (·.size)=some cs.length:=by rw[Tryz.xx,g0]
   have⟨o2,o3,o4,d5⟩:=jh l9 m0 l8 l6;have i7:=n.o.store;rw[<-b9] at i7;have T:=Kz i7;have I:=Kz (d7.o.but T.o.kb (by omega));have o0:=T.o.c0;have n3:=T.o.c1;have n4:=T.o.row.lt;obtain⟨⟨_,x0⟩,g5⟩:=I.o.row.at (i:=0) (by omega);obtain⟨⟨_,x1⟩,g1⟩:=I.o.row.at (i:=1) (by omega);have xz:=I.o.lt;clear b9 g0 l6 l7 a9 l8 l9 m0 i7;go_wp2_with (first | (refine wpList_load_mid rfl 83 _ rfl Z.heap.size 0 rfl cs _ n6.o underlying83 rfl o3.o ?_) | (refine wpList_store_mid rfl 83 _ _ rfl g (V*8) cs.toArray rfl rfl o4.o o2.o d5.o ?_;rw[List.toList_toArray]))
   have hR:=Jc (wc.setCells g (V*8) cs) (w.heap.size+1) 0 [.int .i64 l5,.slice (some ⟨g,0,none⟩) L.length H] (I.o.row.there (o:=0) (m:=2) (IZ _));refine Zx [.int .i64 l5,.slice (some ⟨g,0,none⟩) L.length H] _ results97 rfl hR underlying77 rfl Tryz.gY rfl (T.o.ends I.o (by omega) k0 d8.o rfl (by omega) (by omega) (by rw[Ka];omega) n5)
