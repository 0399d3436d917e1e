import Derived.Test.YtgnkgfjmbmcfcaaGreatDoorKXChain
import Derived.Test.YtgnkgfjmbmcfcaaGreatDoorKXToldL
set_option maxRecDepth 100000
set_option maxHeartbeats 25600000
namespace Go.Proofs.YtgnkgfjmbmcfcaaGreatDoor
open Go.RowKit Go.Proofs.Tryz
theorem Tryz.Mg :(prog.info? 98).map (fun i=>(i.zero,i.size,i.bytes))=some (some (.agg #[.string ByteArray.empty,.int .i64 0,.int .i64 0]),3,32):=by kernel_rfl
theorem FO{w:Qy}{b n:Nat}{t:TypeId}{c:List QA}(d:aL w b t n)(h:w.rangeAt b 0 c){o:Nat}(j:o<n)(v:QA):(w.setCell ⟨b,o,none⟩ v).rangeAt b 0 (c.set o v):=fun i u a=>by
 rw[PD];by_cases e:i=o
 ·subst e;by_cases f:i<c.length
  ·rw[Qe f] at a;cases a;exact OY w b i [v] (d.row.there (o:=i) (m:=1) (by omega)) 0 _ rfl
  ·rw[List.getElem?_eq_none (by rw[Qd];omega)] at a;cases a
 ·rw[Pp (fun x=>e x.symm)] at a;rw[Pq _ _ _ _ (by intro g;injection g with _ k _;omega)];have:=h i u a
  rwa [PD] at this
structure jl (u:Qy) (ob:Nat) (vs:List QA):Prop where
 row:aL u ob 33 9
 at':u.rangeAt ob 0 vs
 len:vs.length=9
section
variable {w u : Qy} {ob : Nat} {vs : List QA}
theorem jl.keeps(h:jl w ob vs)(k:bv w u):jl u ob vs:=by
 have e:=k.2 ob h.row.type;exact⟨h.row.block e,fun j v a=>(Pi (w:=w) e).trans (h.at' j v a),h.len⟩
theorem jl.kept(h:jl w ob vs)(k:K_ w u):jl u ob vs:=h.keeps (.aj k)
theorem jl.set(h:jl w ob vs){o:Nat}(b:o<9)(v:QA):jl (w.setCell ⟨ob,o,none⟩ v) ob (vs.set o v):=⟨h.row.set v,FO h.row h.at' b v,by rw[Qd];exact h.len⟩
theorem jl.Mm(h:jl w ob vs)(c:∀u∈vs,∀s,u≠ .string s):je w ob:=fun o s e=>by
 by_cases d:o<9
 ·have b:o<vs.length:=by rw[h.len];exact d
  have a:=h.at' o vs[o] (OZ b);rw[PD,e] at a;injection a with a;exact c _ (Pf b) s a.symm
 ·obtain⟨g,f,b⟩:=h.row;unfold World.cell? at e;simp only[f] at e;simp only[Option.isSome_none,Bool.false_eq_true,if_false] at e;have i:=(PK.1 e).1;omega
end
variable {a : Qx}
theorem Ct{w w':Qy}{g:Nat}{l:List Qw}(h:Strs w a l)(d:je w g)(k:But (fun x=>x=g) w w'):Strs w' a l:=fun i e=>by
 obtain⟨f,o,j,b,c⟩:=h i e;exact⟨f,o,j,OV b k.size,(k.cell b (fun x=>by subst x;exact d _ _ c)).trans c⟩
theorem Bu{w w':Qy}{g:Nat}{l:List dh}(h:iY w a l)(d:je w g)(k:But (fun x=>x=g) w w'):iY w' a l:=fun i e=>by
 obtain⟨f,p,m,b,c⟩:=h i e;exact⟨f,p,m,OV b k.size,fun j u n=>(k.cell b (fun x=>by subst x;exact d _ _ (c 0 _ rfl))).trans (c j u n)⟩
theorem Bb(w:Qy)(n:Nat):aL (w.alloc (.cells (madeCells #[.string ByteArray.empty,.int .i64 0,.int .i64 0] (n*3)) 98)) w.heap.size 98 (n*3)/\∀k,k<n->(w.alloc (.cells (madeCells #[.string ByteArray.empty,.int .i64 0,.int .i64 0] (n*3)) 98)).rangeAt w.heap.size (k*3) (dD none):=by
 have b:=aL.made w (madeCells #[.string ByteArray.empty,.int .i64 0,.int .i64 0] (n*3)) 98;rw[size_madeCells] at b;refine⟨b,fun k f j u a=>?_⟩;have c:j<3:=by have:=(O_.1 a).1;simpa[dD] using this
 have h:=X_ w (madeCells #[.string ByteArray.empty,.int .i64 0,.int .i64 0] (n*3)) 98 (k*3+j) u ?_
 ·rw[PD] at h;exact h
 ·have d:k*3+j<n*3:=by omega
  have e:(k*3+j) % 3=j:=by omega
  simp only[madeCells,Array.toList_map,List.getElem?_map,Array.getElem?_toList];rw[Array.getElem?_eq_getElem (by simpa using d),Array.getElem_range];simp only[Option.map_some];show some (#[Value.string ByteArray.empty,.int .i64 0,.int .i64 0][(k*3+j) % 3]!)=some u;rw[e]
  match j,c,a with
  | 0,_,a=>exact a
  | 1,_,a=>exact a
  | 2,_,a=>exact a
structure xm (wv:Qy) (Kq:List Qz) (Kj:List Qw) (wk:Nat) (a:Qx) (cap:Nat) (T:List Q_) (hb bsb:Nat) (ra:Qx) (rc:Nat) (d:Qx) (dc lo hi:Nat) (u:Qy):Prop where
 kw:K_ wv u
 row:aL u hb 59 7
 cel:u.rangeAt hb 0 [.slice a Kq.length cap,.slice ra Kj.length rc,.slice d T.length dc,.slice (some ⟨bsb,0,none⟩) wk wk,.slice none 0 0,.slice none 0 0,.slice none 0 0]
 hlow:wv.heap.size<=hb
 za:wv.heap.size<=bsb
 iq:aL u bsb 98 (wk*3)
 bsy:∀k,k<wk->u.rangeAt bsb (k*3) (dD none)
 run:qc u lo hi d T
 rts:oL u lo hi ra Kj
 sep:∀x,x=hb\/x=bsb->¬(lo<=x/\x<hi)
 top:hi<=u.heap.size
variable {Kq : List Qz} {wk : Nat}
theorem xm.box{i b:Qy}{f:List Qw}{cap:Nat}{T:List Q_}{c:Nat}{h:Qx}{rc:Nat}{d:Qx}{dc lo hi:Nat}(k:K_ i b)(l:aL b c 98 (wk*3))(m:∀k,k<wk->b.rangeAt c (k*3) (dD none))(n:i.heap.size<=c)(p:qc b lo hi d T)(q:oL b lo hi h f)(r:¬(lo<=c/\c<hi))(s:hi<=b.heap.size):
  xm i Kq f wk a cap T b.heap.size c h rc d dc lo hi (b.alloc (.cells #[.slice a Kq.length cap,.slice h f.length rc,.slice d T.length dc,.slice (some ⟨c,0,none⟩) wk wk,.slice none 0 0,.slice none 0 0,.slice none 0 0] 59)):=by
 have e:K_ b (b.alloc (.cells #[.slice a Kq.length cap,.slice h f.length rc,.slice d T.length dc,.slice (some ⟨c,0,none⟩) wk wk,.slice none 0 0,.slice none 0 0,.slice none 0 0] 59)):=ak _ _;refine⟨k.trans e,aL.made b _ _,X_ b _ _,k.size,n,l.kept e,fun t v=>e.range l.lt (m t v),p.but (P:=fun _=>False) (.aj e) (fun _ j=>j.elim),q.but (P:=fun _=>False) (.aj e) (fun _ j=>j.elim),fun x w=>?_,OX s e.size⟩;rcases w with rfl | rfl
 ·omega
 ·exact r
theorem xm.LK{c u w':Qy}{f:List Qw}{cap:Nat}{T:List Q_}{g i:Nat}{j:Qx}{rc:Nat}{d:Qx}{dc lo hi:Nat}(h:xm c Kq f wk a cap T g i j rc d dc lo hi u)(k:K_ u w'){b:Nat}(m:u.heap.size<=b)(h2:b<w'.heap.size):
  bi ⟨Kq,f,wk,c,g,i,a,cap,b⟩ (eU T wk) ⟨j,rc,d,dc,lo,hi,none,0,none,0,none,0,[]⟩ w':=by
 have l:But (fun _=>False) u w':= .aj k;refine⟨h.kw.trans k,h.row.kept k,k.range h.row.lt h.cel,h.hlow,h.za, ?_,h.iq.kept k,fun q n=>?_,⟨rfl,.inl ⟨rfl,rfl⟩⟩,⟨rfl,.inl ⟨rfl,rfl⟩⟩,⟨rfl,.inl ⟨rfl,rfl⟩⟩,h.run.but l (fun _ h=>h.elim),h.rts.but l (fun _ h=>h.elim),fun x p=>?_,OX h.top k.size,OX h.kw.size m,h2, ?_⟩
 ·show (List.replicate wk none).length=wk;simp
 ·have e:(eU T wk).busy.getD q none=none:=by
   show (List.replicate wk (none:Option aX)).getD q none=none;rw[List.getD,List.getElem?_replicate]
   split <;> rfl
  rw[e];exact k.range h.iq.lt (h.bsy q n)
 ·rcases p with e|e|e|e
  ·exact h.sep x (.inl e)
  ·exact h.sep x (.inr e)
  ·cases e
  ·cases e
 ·have:=h.top;show¬(lo<=b/\b<hi);omega
def Oq(wv:Qy)(Kq:List Qz)(Kj:List Qw)(wk:Nat)(a:Qx)(cap:Nat)(T:List Q_)(x b:Act)(u:Qy):Prop:=
 ∃(v0 v1 v2 v3 v4 v5 v6 v7:QA) (hb bsb:Nat) (ra:Qx) (rc:Nat) (d:Qx) (dc lo hi:Nat),b= ((((((((x.put (some 24) v0).put (some 25) v1).put (some 26) v2).put (some 27) v3).put (some 28) v4).put (some 29) v5).put (some 30) v6).put (some 31) v7).put (some 7) (.pointer (some ⟨hb,0,none⟩))/\xm wv Kq Kj wk a cap T hb bsb ra rc d dc lo hi u
theorem Jg{W:aZ}{t:Int}{S A:aS}(h:jb W t S A)(a:t=0\/(uU W (t-1) S/\¬lg S))(c:¬∃(k:Nat) (e:aX),S.busy[k]? =some (some e)/\e.fin=t)(hi:lg A):t=0:=by
 rcases a with a|⟨a,d⟩
 ·exact a
 ·have:=(a.tick (u:=t) (fun k e f g=>c ⟨k,e,f,g⟩)).unique h;rw[<-this] at hi;exact Qi hi d
structure vS (Kq:List Qz) (wk:Nat) (S0:aS) (n:Nat) (S:aS):Prop where
 frm:uY (n:Int) S
 rst:(n:Int)=0\/(uU (Kk Kq) ((n:Int)-1) S/\¬lg S)
 way:∀u A,Gm (Kk Kq) (n:Int) S u A->Gm (Kk Kq) 0 S0 u A
 bnd:vQ Kq S
 slk:SlK Kq S
 tle:(n:Int)<=20*(S.slots.length:Int)
theorem AZ(a:a_ (Kk Kq)):MU (Kk Kq):=fun n A d=>by have:=(a n A d).1.1;omega
theorem vQ.few{S:aS}(h:vQ Kq S)(b:eu Kq wk S)(c:wk<=60):S.slots.length<=2060:=by
 have d:=h.sl;have e:=wZ S.busy;have f:=b.bP.len;omega
theorem Jr{S:aS}(b:a_ (Kk Kq))(c:eu Kq wk S)(n:Qw)(d:bD (Kk Kq) (Qq S.T) n):0<=aM (Kk Kq) n/\aM (Kk Kq) n<=20:=by
 obtain⟨r,f,_⟩:=d;obtain⟨A,a⟩:=Ps.1 (c.bP.ok.known n r f);have h:=(b n A a).1.1;unfold aM;rw[a];simp only;omega
section
variable {Kq : List Qz} {wk : Nat} {S0 S S1 S2 S3 : aS} {n : Nat}
theorem vS.mid(h:vS Kq wk S0 n S)(a:a_ (Kk Kq))(b:eu Kq wk S)(c:kH (Kk Kq) (n:Int) S S1)(h2:lS (Kk Kq) S1 S2):eu Kq wk S2/\vQ Kq S2/\S2.slots=S.slots/\SlK Kq S2:=by
 obtain⟨d,_⟩:=c.live a b;obtain⟨g,_⟩:=h2.live a d;obtain⟨i,e⟩:=c.bnd a b h.bnd;obtain⟨j,f⟩:=h2.bnd a d i;refine⟨g,j,f.trans e, ?_⟩;unfold SlK;rw[f,e];exact h.slk
theorem vS.tick(h:vS Kq wk S0 n S)(a:a_ (Kk Kq))(j:wk<=60)(e:eu Kq wk S)(f:kH (Kk Kq) (n:Int) S S1)(h2:lS (Kk Kq) S1 S2)(b:j_ (Kk Kq) (n:Int) S2 S3):jb (Kk Kq) (n:Int) S S3/\vQ Kq S3/\SlK Kq S3/\uU (Kk Kq) (n:Int) S3/\S.slots.length<=S3.slots.length:=by
 obtain⟨c,g,d,k⟩:=h.mid a e f h2;have i:jb (Kk Kq) (n:Int) S S3:=⟨S1,S2,f,h2,b⟩;obtain⟨l,m⟩:=b.bnd (Jr a c) ⟨by omega,by rw[d];exact h.tle⟩ g;have q:=g.few c j;have p:=h.tle;rw[<-d] at p;refine⟨i,l,b.slk c.bP.ok ⟨by omega,by omega⟩ k,(i.rest e.bP.ok (AZ a) h.frm).1,by rw[<-d];exact m⟩
theorem vS.next(h:vS Kq wk S0 n S)(f:jb (Kk Kq) (n:Int) S S3)(c:vQ Kq S3)(a:SlK Kq S3)(b:uU (Kk Kq) (n:Int) S3)(hi:¬lg S3):vS Kq wk S0 (n+1) S3:=by
 have g:((n+1:Nat):Int)-1= (n:Int):=by omega
 have i:(n:Int)+1= ((n+1:Nat):Int):=by omega
 refine⟨fun k e a=>(by have:=b.fin k e a;omega),.inr ⟨by rw[g];exact b,hi⟩,fun u A j=>h.way u A (.next f hi (by rw[i];exact j)),c,a, ?_⟩;by_cases d:∃(k:Nat) (e:aX),S3.busy[k]? =some (some e)
 ·obtain⟨k,e,a⟩:=d;have l:=b.fin k e a;have m:=(c.fin k e a).2;omega
 ·exact Qi (fun k e a=>d ⟨k,e,a⟩) hi
theorem vS.start{T:List Q_}(_hg:dU Kq T)(f:Kq.length<=60):vS Kq wk (eU T wk) 0 (eU T wk):=by
 have c:∀(k:Nat) (e:aX),(eU T wk).busy[k]?≠some (some e):=fun k e h=>by
  have a:(List.replicate wk (none:Option aX))[k]? =some (some e):=h;rw[List.getElem?_replicate] at a
  split at a <;> simp at a
 refine⟨fun k e b=>Qi b (c k e),.inl rfl,fun u A h=>h,⟨?_,fun k e b=>Qi b (c k e)⟩,(fun s d=>by cases d),(by show ((0:Nat):Int)<=20*(((eU T wk).slots.length:Nat):Int);omega)⟩;show 0+mE Kq T<=2000+_;have:=A_ Kq T;omega
end
theorem Tryz.qB :(prog.info? 33).map (·.size)=some 9:=by kernel_rfl
def GN(P:vv->Prop)(w w':Qy)(e:Ending):Prop:=
 ∃(p:vv) (sa ra fa ca:Qx) (sc rc fc cc:Nat),e= .returned (.agg #[.int .i64 p.code,.slice sa p.slots.length sc,.int .i64 p.fw,.int .i64 p.out.code,.slice ra p.out.res.length rc,.slice fa p.out.chain.length fc,.int .i64 p.out.aY,.int .i64 p.out.cost,.slice ca p.chain.length cc])/\P p/\(mR w' sa p.slots/\iY w' ra p.out.res/\Strs w' fa p.out.chain/\mR w' ca p.chain)/\K_ w w'
theorem BV(w:Qy)(a:Qx)(cap:Nat)(Kq:List Qz)(rd:Qx)(rc:Nat)(b:List Qw)(k:Int)(t7:Kq.length<=1048576)(g3:∀y∈Kq,y.Fits)(t8:b.length<=1048576)(l4:∀s∈b,s.size<=maxLen)(hN:bJ w a Kq)(hR:Strs w rd b):
  Calls prog 6 #[.agg #[.slice a Kq.length cap],.slice rd b.length rc,.int .i64 k] w fun e w'=>GN (iA Kq b k) w w' e:=by
 obtain⟨is,q4,q5,a4,c1⟩:=aN Tryz.nJ;obtain⟨WB,b5⟩:=ag ((w.alloc (.cells #[.slice a Kq.length cap] 37)).alloc (.cells #[.int .i64 0,.slice none 0 0,.int .i64 0,.int .i64 0,.slice none 0 0,.slice none 0 0,.int .i64 0,.int .i64 0,.slice none 0 0] 33));have kB:K_ w WB:=by rw[b5];exact (ak _ _).alloc _
 have q6:WB.heap.size=w.heap.size+2:=by rw[b5];simp
 have b0:WB.cell? ⟨w.heap.size,0,none⟩=some (.slice a Kq.length cap):=by rw[b5,K_.cell (w:=w.alloc (.cells #[.slice a Kq.length cap] 37)) (ak _ _) (by simp)];exact X_ w _ _ 0 _ rfl
 have c2:Hid (jl WB (w.heap.size+1) [.int .i64 0,.slice none 0 0,.int .i64 0,.int .i64 0,.slice none 0 0,.slice none 0 0,.int .i64 0,.int .i64 0,.slice none 0 0]):=by
  have Q:=aL.made (w.alloc (.cells #[.slice a Kq.length cap] 37)) #[.int .i64 0,.slice none 0 0,.int .i64 0,.int .i64 0,.slice none 0 0,.slice none 0 0,.int .i64 0,.int .i64 0,.slice none 0 0] 33;have h2:=X_ (w.alloc (.cells #[.slice a Kq.length cap] 37)) #[.int .i64 0,.slice none 0 0,.int .i64 0,.int .i64 0,.slice none 0 0,.slice none 0 0,.int .i64 0,.int .i64 0,.slice none 0 0] 33;simp only[PL] at Q h2;rw[b5];exact⟨Q,h2,rfl⟩
 have z0:w.heap.size<WB.heap.size:=by omega
 have HC:Hid (∀w',K_ WB w'->w'.cell? ⟨w.heap.size,0,none⟩=some (.slice a Kq.length cap)/\w.heap.size+1<w'.heap.size):=fun w' K=>⟨(K.cell z0).trans b0,by have:=K.size;omega⟩
 have e6:Hid (∀u,K_ WB u->¬(cu Kq 0/\eO b/\1<=k/\k<=60)->GN (iA Kq b k) w (u.setCells (w.heap.size+1) 0 [.int .i64 9,.slice none 0 0,.int .i64 0,.int .i64 0,.slice none 0 0,.slice none 0 0,.int .i64 0,.int .i64 0,.slice none 0 0]) (.returned (.agg #[.int .i64 9,.slice none 0 0,.int .i64 0,.int .i64 0,.slice none 0 0,.slice none 0 0,.int .i64 0,.int .i64 0,.slice none 0 0]))/\(u.setCells (w.heap.size+1) 0 [.int .i64 9,.slice none 0 0,.int .i64 0,.int .i64 0,.slice none 0 0,.slice none 0 0,.int .i64 0,.int .i64 0,.slice none 0 0]).rangeAt (w.heap.size+1) 0 [.int .i64 9,.slice none 0 0,.int .i64 0,.int .i64 0,.slice none 0 0,.slice none 0 0,.int .i64 0,.int .i64 0,.slice none 0 0]):=fun u z hn=>by
  refine⟨⟨Gj,none,none,none,none,0,0,0,0,rfl,⟨⟨OW _,OW _,OW _,OW _⟩,.inr ⟨hn,rfl⟩⟩,⟨fun g4 H=>aB H,fun g4 H=>aB H,fun g4 H=>aB H,fun g4 H=>aB H⟩,bG (g:=w.heap.size+1) (by omega) _ 0 (kB.trans z)⟩, ?_⟩;exact OY u (w.heap.size+1) 0 [.int .i64 9,.slice none 0 0,.int .i64 0,.int .i64 0,.slice none 0 0,.slice none 0 0,.int .i64 0,.int .i64 0,.slice none 0 0] ((c2.o.row.kept z).row.there (o:=0) (m:=9) (OU _))
 have a5:=Kz kB;clear kB q6 b0 z0;go_enter func6,ntmps6
 go_upto_region 1 with fail
 rw[<-b5];clear b5;obtain⟨b0,z1⟩:=HC.o _ (K_.refl _);go_wp2_with fail
 refine (nC _ a cap Kq (by unfold maxLen;omega) g3 (hN.kept a5.o)).mono ?_;rintro e w1 ⟨⟨v,rfl,B⟩,k1⟩;clear b0 z1;obtain⟨b0,z1⟩:=HC.o _ k1;by_cases e7:v=0;rotate_left
 ·have t9:(v != 0)=true:=by simpa using e7
  have c3:Hid (¬(cu Kq 0/\eO b/\1<=k/\k<=60)):=fun h=>e7 (B.unique h.1)
  have C:=c2.o.row.kept k1;obtain⟨⟨⟨_,g5⟩,g6⟩,⟨⟨_,c4⟩,c5⟩,⟨⟨_,c6⟩,c7⟩,⟨⟨_,g7⟩,g8⟩,⟨⟨_,g9⟩,h0⟩,⟨⟨_,h1⟩,h4⟩,⟨⟨_,h5⟩,h6⟩,⟨⟨_,h7⟩,h8⟩,⟨_,c8⟩,c9⟩:=C.row.EB;have h9:=C.lt;clear C e7 B;go_wp2_with fail
  obtain⟨hP,hX⟩:=e6.o _ k1 c3.o;exact Zx [.int .i64 9,.slice none 0 0,.int .i64 0,.int .i64 0,.slice none 0 0,.slice none 0 0,.int .i64 0,.int .i64 0,.slice none 0 0] _ results6 rfl hX underlying33 rfl Tryz.qB rfl hP
 subst e7;have HW:=Kz B;clear B;go_wp2_with fail
 refine (qR _ rd rc b (by unfold maxLen;omega) l4 (hR.kept (a5.o.trans k1))).mono ?_;rintro e Y ⟨R,l5⟩;have E:=k1.trans l5;clear b0 z1 k1 l5;obtain⟨b0,z1⟩:=HC.o _ E;rcases R.cases with⟨rfl,d0⟩|⟨rfl,d1⟩;rotate_left
 ·have c3:Hid (¬(cu Kq 0/\eO b/\1<=k/\k<=60)):=fun h=>d1 h.2.1
  have C:=c2.o.row.kept E;obtain⟨⟨⟨_,g5⟩,g6⟩,⟨⟨_,c4⟩,c5⟩,⟨⟨_,c6⟩,c7⟩,⟨⟨_,g7⟩,g8⟩,⟨⟨_,g9⟩,h0⟩,⟨⟨_,h1⟩,h4⟩,⟨⟨_,h5⟩,h6⟩,⟨⟨_,h7⟩,h8⟩,⟨_,c8⟩,c9⟩:=C.row.EB;have h9:=C.lt;clear C d1 R;go_wp2_with fail
  obtain⟨hP,hX⟩:=e6.o _ E c3.o;exact Zx [.int .i64 9,.slice none 0 0,.int .i64 0,.int .i64 0,.slice none 0 0,.slice none 0 0,.int .i64 0,.int .i64 0,.slice none 0 0] _ results6 rfl hX underlying33 rfl Tryz.qB rfl hP
 have HY:=Kz d0;clear d0 R;by_cases e9:1<=k/\k<=60;rotate_left
 ·have c3:Hid (¬(cu Kq 0/\eO b/\1<=k/\k<=60)):=fun h=>e9 h.2.2
  have C:=c2.o.row.kept E;obtain⟨⟨⟨_,g5⟩,g6⟩,⟨⟨_,c4⟩,c5⟩,⟨⟨_,c6⟩,c7⟩,⟨⟨_,g7⟩,g8⟩,⟨⟨_,g9⟩,h0⟩,⟨⟨_,h1⟩,h4⟩,⟨⟨_,h5⟩,h6⟩,⟨⟨_,h7⟩,h8⟩,⟨_,c8⟩,c9⟩:=C.row.EB;have h9:=C.lt;have f0:=Kz (Ib Y k 1 60 (by omega));clear C e9;go_wp2_with fail
  refine f0.o.mono ?_;rintro e F ⟨rfl,d2⟩;rw[d2];clear d2 F;go_wp2_with fail
  obtain⟨hP,hX⟩:=e6.o _ E c3.o;exact Zx [.int .i64 9,.slice none 0 0,.int .i64 0,.int .i64 0,.slice none 0 0,.slice none 0 0,.int .i64 0,.int .i64 0,.slice none 0 0] _ results6 rfl hX underlying33 rfl Tryz.qB rfl hP
 clear e6;obtain⟨d,q7⟩:∃d:Nat,k=d:=⟨k.toNat,by omega⟩;subst q7;have d3:d<=60:=by omega
 have q8:1<=d:=by omega
 have f0:=Kz (rU Y (d:Int) 1 60 e9.1 e9.2);obtain⟨rb,ro,q9,_,_⟩:=hR 0 (by have:=HY.o.1;omega);subst q9;have l6:=nS HW.o;have i0:=Kz (fun u (z:K_ Y u)=>ER u a cap Kq rb ro rc b (by omega) g3 HW.o HY.o l4 (hN.kept (a5.o.trans (E.trans z))) (hR.kept (a5.o.trans (E.trans z))));have r0:=dJ (P:=prog) 55 98 _ _ _ underlying55 Tryz.Mg .i64 .i64 d (by omega) (by omega);have I:Hid (∀u,K_ Y u->u.cell? ⟨w.heap.size,0,none⟩=some (.slice a Kq.length cap)):=fun u z=>(HC.o u (E.trans z)).1
 have b6:=lK HW.o;have f1:=Kz (oP b6 b);go_wp2_with fail
 refine f0.o.mono ?_;rintro e F ⟨rfl,d2⟩;rw[d2];clear d2 F f0;go_wp2_with fail
 refine Gc (Oq Y Kq b d a cap (bY Kq b)) ?_ ?_
 ·refine aR 8 I.o fun S G f=>?_
  refine ae 0 f ?_;refine ae 1 f ?_;refine ae 2 f ?_;refine ae 4 f ?_;refine wK 3 5 (fun K c=>?_) (fun K c=>?_)
  ·rw[Qg (by rfl)];go_simp
   go_at_call 21
   refine (i0.o _ G).mono ?_;rintro e F d4;obtain⟨ra,a6,d6,dc,rfl,b7,c1,k3⟩:=d4.stretch;clear d4;have Z:=G.trans k3;dsimp only;refine c.out _ _ (fun _=>I.o _ Z) ?_;clear c K f;try simp only[Act.put,upA,upB,upC]
   have f:=I.o _ Z;refine ax 5 (fun K c=>?_);go_simp
   have a7:=Bb F d;have KA:K_ F (F.alloc (.cells (madeCells #[.string ByteArray.empty,.int .i64 0,.int .i64 0] (d*3)) 98)):=ak _ _;have a0:=Z.trans KA;refine c.out _ _ (fun _=>I.o _ a0) ?_;clear c K f;try simp only[Act.put,upA,upB,upC]
   have f:=I.o _ a0;refine ae 6 f ?_;have d7:=xm.box (a:=a) (cap:=cap) (Kq:=Kq) (rc:=a6) (dc:=dc) a0 a7.1 a7.2 Z.size (c1.but (P:=fun _=>False) (.aj KA) (fun _ h=>h.elim)) (b7.but (P:=fun _=>False) (.aj KA) (fun _ h=>h.elim)) (fun h=>Qi h.2 (Nat.lt_irrefl _)) KA.size;clear f;refine ax 7 (fun K c=>?_);go_simp
   refine c.out _ _ (fun _=>I.o _ (d7.kw)) ?_;clear c K;try simp only[Act.put,upA,upB,upC]
   refine ax 8 (fun K c=>?_);go_simp
   refine c.out _ _ (fun h=>Qi rfl h) ?_;clear c K;try simp only[Act.put]
   refine az ⟨rfl, ?_⟩;refine⟨.agg #[.slice a Kq.length cap],.agg #[.slice a Kq.length cap],.slice (some ⟨rb,ro,none⟩) b.length rc,.agg #[.slice ra b.length a6,.slice d6 (bY Kq b).length dc],.int .i64 (d:Int),.slice (some ⟨F.heap.size,0,none⟩) d d,.agg #[.slice a Kq.length cap,.slice ra b.length a6,.slice d6 (bY Kq b).length dc,.slice (some ⟨F.heap.size,0,none⟩) d d,.slice none 0 0,.slice none 0 0,.slice none 0 0],.pointer (some ⟨F.heap.size+1,0,none⟩),_,_,_,_,_,_,_,_, ?_,d7⟩;simp only[Act.put,List.setIfInBounds_toArray,List.set_cons_zero,PX,PL]
  ·rw[Qg (by rfl)];go_simp
   have a7:=Bb S d;have KA:K_ S (S.alloc (.cells (madeCells #[.string ByteArray.empty,.int .i64 0,.int .i64 0] (d*3)) 98)):=ak _ _;have a0:=G.trans KA;refine c.out _ _ (fun _=>I.o _ a0) ?_;clear c K f;try simp only[Act.put,upA,upB,upC]
   have f:=I.o _ a0;refine ax 3 (fun K c=>?_);go_simp
   go_at_call 21
   refine (i0.o _ a0).mono ?_;rintro e F d4;obtain⟨ra,a6,d6,dc,rfl,b7,c1,k3⟩:=d4.stretch;clear d4;have Z:=a0.trans k3;dsimp only;refine c.out _ _ (fun _=>I.o _ Z) ?_;clear c K f;try simp only[Act.put,upA,upB,upC]
   have f:=I.o _ Z;refine ae 6 f ?_;have d7:=xm.box (a:=a) (cap:=cap) (Kq:=Kq) (rc:=a6) (dc:=dc) Z (a7.1.kept k3) (fun q hq=>k3.range a7.1.lt (a7.2 q hq)) G.size c1 b7 (fun h=>by have:=h.1;have:=a7.1.lt;omega) (OU _);clear f;refine ax 7 (fun K c=>?_);go_simp
   refine c.out _ _ (fun _=>I.o _ (d7.kw)) ?_;clear c K;try simp only[Act.put,upA,upB,upC]
   refine ax 8 (fun K c=>?_);go_simp
   refine c.out _ _ (fun h=>Qi rfl h) ?_;clear c K;try simp only[Act.put]
   refine az ⟨rfl, ?_⟩;refine⟨.agg #[.slice a Kq.length cap],.agg #[.slice a Kq.length cap],.slice (some ⟨rb,ro,none⟩) b.length rc,.agg #[.slice ra b.length a6,.slice d6 (bY Kq b).length dc],.int .i64 (d:Int),.slice (some ⟨S.heap.size,0,none⟩) d d,.agg #[.slice a Kq.length cap,.slice ra b.length a6,.slice d6 (bY Kq b).length dc,.slice (some ⟨S.heap.size,0,none⟩) d d,.slice none 0 0,.slice none 0 0,.slice none 0 0],.pointer (some ⟨F.heap.size,0,none⟩),_,_,_,_,_,_,_,_, ?_,d7⟩;simp only[Act.put,List.setIfInBounds_toArray,List.set_cons_zero,PX]
 clear r0 i0;rintro _ w5 ⟨v0,v1,v2,v3,v4,v5,v6,v7,hb,r1,r2,r3,d5,r4,lo,H,rfl,l7⟩;try simp only[Act.put,upA,upB,upC]
 obtain⟨w6,f2⟩:=ag (w5.alloc (.cells #[.int .i64 0,.slice none 0 0,.int .i64 0,.int .i64 0,.slice none 0 0,.slice none 0 0,.int .i64 0,.int .i64 0,.slice none 0 0] 33));obtain⟨r,f3⟩:=ag w5.heap.size;have k6:K_ w5 w6:=by rw[f2];exact ak _ _
 have i1:Hid (jl w6 r [.int .i64 0,.slice none 0 0,.int .i64 0,.int .i64 0,.slice none 0 0,.slice none 0 0,.int .i64 0,.int .i64 0,.slice none 0 0]):=by rw[f2,f3];exact⟨aL.made w5 _ _,X_ w5 _ _,rfl⟩
 obtain⟨v,B⟩:∃v:fD,v= ⟨Kq,b,d,Y,hb,r1,a,cap,r⟩:=⟨_,rfl⟩;have l8:bi v (eU (bY Kq b) d) ⟨r2,r3,d5,r4,lo,H,none,0,none,0,none,0,[]⟩ w6:=by rw[B];exact l7.LK k6 (Pw f3.symm) i1.o.row.lt
 have f4:Hid (m_ v):=by rw[B];exact⟨b6,g3,l6,AR HW.o,⟨HY.o.1,HY.o.2.1⟩,hN.kept (a5.o.trans E),⟨q8,d3⟩⟩
 have l9:Hid (jX v (eU (bY Kq b) d) w6):=by
  refine⟨_,l8, ?_,fun n _=>rfl, ?_⟩
  ·rw[B];exact lY f1.o
  ·have Q:=A_ Kq (bY Kq b);rw[B];show 0+60*mE Kq (bY Kq b)<=90000;omega
 have m0:=Kz (show v.wk=d by rw[B]);have a1:=Kz (show v.Kq=Kq by rw[B]);have a2:=Kz (show hb=v.hb by rw[B]);have i2:=Kz (show v.w0=Y by rw[B]);have a8:=Kz (show r=v.ob by rw[B]);have m1:Hid (v.a=a/\v.cap=cap/\v.Kj=b):=by rw[B];exact⟨rfl,rfl,rfl⟩
 have m2:Hid (vS Kq d (eU (bY Kq b) d) 0 (eU (bY Kq b) d)):=vS.start f1.o l6;clear l8 l7 B;go_upto_region 5 with fail
 rw[<-f2,<-f3];clear f2 k6 f3;go_wp2
 go_loopg [9] 50000 (fun gk x9 wr=>∃(n:Nat) (a9:aS) (tk:Int),x9= .int .i64 (n:Int)/\n+gk=50000/\Hid (jX v a9 wr)/\Hid (vS Kq d (eU (bY Kq b) d) n a9)/\Hid (jl wr r [.int .i64 0,.slice none 0 0,.int .i64 tk,.int .i64 0,.slice none 0 0,.slice none 0 0,.int .i64 0,.int .i64 0,.slice none 0 0])/\Hid (n=0->tk=0))
 case atStart=>exact⟨0,_,0,rfl,rfl,l9,m2,i1,Kz (fun _=>rfl)⟩
 case round=>
  clear l9 m2 i1;obtain⟨n,a9,tk,rfl,v8,HA,b1,HV,i3⟩:=hrel;obtain⟨v9,hI⟩:=HA.o;have hl:=hI.live;rw[m0.o,a1.o] at hl;have HL:=Kz hl;have w2:=b1.o.bnd.few hl d3;have w3:=b1.o.tle;have i4:=Kz (Bw (t:=(n:Int)) HA.o f4.o);rw[<-a2.o] at i4;clear hI hl;go_wp2_with fail
  refine i4.o.mono ?_;rintro e u1 ⟨S1,R,i5,m3,m4⟩;rw[a1.o] at i5;have⟨m5,m6⟩:=aD i5 m3;have b8:=Kz (HV.o.keeps m4);clear i5 m3 m4 i4;obtain⟨a3,u2,b2⟩:∃(a3:Int) (u2:Qy),(((∃(q:Nat) (e:aX),a9.busy[q]? =some (some e)/\e.fin= (n:Int))/\a3= (n:Int)/\u2=u1.setCell ⟨r,2,none⟩ (.int .i64 (n:Int)))\/((¬∃(q:Nat) (e:aX),a9.busy[q]? =some (some e)/\e.fin= (n:Int))/\a3=tk/\u2=u1)):=by
   rcases Classical.em (∃(q:Nat) (e:aX),a9.busy[q]? =some (some e)/\e.fin= (n:Int)) with h|h
   ·exact⟨_,_,.inl ⟨h,rfl,rfl⟩⟩
   ·exact⟨_,_,.inr ⟨h,rfl,rfl⟩⟩
  have m7:Hid (jl u2 r [.int .i64 0,.slice none 0 0,.int .i64 a3,.int .i64 0,.slice none 0 0,.slice none 0 0,.int .i64 0,.int .i64 0,.slice none 0 0]):=by
   rcases b2 with⟨_,A,l⟩|⟨_,A,l⟩
   ·rw[A,l];exact b8.o.set (o:=2) (by omega) _
   ·rw[A,l];exact b8.o
  have m8:Hid (jX v S1 u2):=by
   obtain⟨D1,d8⟩:=m6.o;rcases b2 with⟨_,A,l⟩|⟨_,A,l⟩
   ·rw[l];refine⟨D1,d8.mem.beside (by rw[<-a8.o];exact b8.o.row.type) (by rw[<-a8.o];exact But.set (S:=fun x=>x=r) (.aj (K_.refl u1)) (p:=⟨r,2,none⟩) rfl _),d8.live,d8.cau,d8.bud⟩
   ·rw[l];exact⟨D1,d8⟩
  have r5:Hid (∀i,jb (Kk Kq) (n:Int) a9 i->lg i->a3= (n:Int)):=fun i ht H=>by
   rcases b2 with⟨_,A,_⟩|⟨hn,A,_⟩
   ·exact A
   ·have i6:=Jg ht b1.o.rst hn H;rw[A,i3.o (by omega)];exact i6.symm
  have w4:Hid (n=0->a3=0):=fun i6=>by
   rcases b2 with⟨_,A,_⟩|⟨_,A,_⟩
   ·rw[A];omega
   ·rw[A];exact i3.o i6
  obtain⟨⟨_,c6⟩,c7⟩:=b8.o.row.row.at (i:=2) (by omega);have r6:=b8.o.row.lt;have i7:=Kz (zg m8.o f4.o);rw[<-a2.o] at i7;obtain⟨f5,r7,d9⟩:∃f5:Bool,e= .returned (.bool f5)/\((f5=true/\u2=u1.setCell ⟨r,2,none⟩ (.int .i64 (n:Int)))\/(f5=false/\u2=u1)):=by
   rcases R.cases with⟨A,Q⟩|⟨A,Q⟩
   ·rcases b2 with⟨_,_,l⟩|⟨hn,_,_⟩
    ·exact⟨true,A,.inl ⟨rfl,l⟩⟩
    ·exact Qi Q hn
   ·rcases b2 with⟨hn,_,_⟩|⟨_,_,l⟩
    ·exact Qi hn Q
    ·exact⟨false,A,.inr ⟨rfl,l⟩⟩
  subst r7;clear R b2 m6 i3 HV;go_upto_if 37 with fail
  go_cut [] from 38 to 39 (fun wx=>wx=u2)
  case first=>
   rcases d9 with⟨rfl,l⟩|⟨rfl,l⟩
   ·have i8:=Kz l;clear l;go_wp2
    go_meet
    exact i8.o.symm
   ·have i8:=Kz l;clear l;go_wp2
    go_meet
    exact i8.o.symm
  case rest=>
   rw[hcut];clear hcut d9 c6 c7 r6 b8;go_wp2_with fail
   refine i7.o.mono ?_;rintro e u3 ⟨rfl,S2,a4,m9,n0⟩;rw[a1.o] at a4;have r8:=Kz a4;have n1:=Kz (m7.o.keeps n0);obtain⟨n2,d9,r9,s0⟩:=b1.o.mid b6 HL.o m5.o a4;have w7:=d9.few n2 d3;have i9:=Kz (zY (t:=(n:Int)) m9 f4.o (by rw[a1.o];exact a4.busy.2) ⟨by omega,by omega⟩ (by omega));rw[<-a2.o] at i9;clear a4 m9 n0 i7 n2 d9 r9 s0 m8 m7;go_wp2_with fail
   refine i9.o.mono ?_;rintro e u4 ⟨i,R,j0,n3,n4⟩;rw[a1.o] at j0;have j1:=Kz (n1.o.keeps n4);have n5:=Kz n3;obtain⟨n6,n7,n8,b7,x0⟩:=b1.o.tick b6 d3 HL.o m5.o r8.o j0;have⟨j2,n9,o0,s1,s2⟩:=dX n6 n7 n8 b7 R;clear n6 n7 n8 b7 j0 n3 n4 i9 n1 R;rcases s2.o.cases with⟨rfl,d0⟩|⟨rfl,d1⟩
   ·have s3:=Kz (b1.o.next j2.o n9.o o0.o s1.o d0);clear d0;go_wp2
    go_roundg (gk-1)
    case measure=>omega
    case rel=>exact⟨n+1,i,a3,by go_num,by omega,n5,s3,j1,Kz (fun h=>by omega)⟩
   ·have o1:Hid (lg i):=by
     by_cases h:lg i
     ·exact h
     ·exact Qi h d1
    have o2:a3= (n:Int):=r5.o i j2.o o1.o;rw[o2] at j1;obtain⟨D,e1⟩:=n5.o;have j3:=Kz e1;have j4:=e1.live;rw[m0.o,a1.o] at j4;have x1:=n9.o.few j4 d3;obtain⟨w8,rfl⟩:=ag u4;have j5:=j1;have o3:=j5.o.at' 1 _ rfl;have j6:=e1.mem.at.2.2.2.2.1;rw[<-a2.o] at j6;have s4:=j5.o.row.lt;have s5:hb<w8.heap.size:=by rw[a2.o];exact e1.mem.row.lt
    have f6:Hid (∀u,K_ w8 u->u.cell? ⟨r,1,none⟩=some (.slice none 0 0)/\u.cell? ⟨hb,4,none⟩=some (.slice D.sa i.slots.length D.sc)):=fun u z=>⟨(z.cell s4).trans o3,(z.cell s5).trans j6⟩
    clear d1 e1 j4 o3 j6 o2;go_wp2
    refine aR 8 f6.o fun S G f=>?_
    refine af 0 f ?_;refine ae 4 f ?_;refine ae 5 f ?_;have o4:=Kz (ai j3.o.mem.slt G);have o5:Hid (w8.heap.size<=S.heap.size):=G.size;refine ax 6 (fun K c=>?_);refine jh (.tmp 47) (.tmp 51) 28 rfl w8.heap.size 109 is (.agg #[.int .i64 0,.int .i64 0,.string ByteArray.empty]) 3 32 underlying28 q4 q5 a4 c1 rfl (by decide) (.slice none 0 0) 0 [] rfl (PU _ _ _ _) v.w0.heap.size (.slice D.sa i.slots.length D.sc) i.slots.length (bI i.slots) rfl o4.o (pX _) (by unfold maxLen;omega) (by omega) o5.o ?_;intro x2 w9 f7 o6 _;rw[PD,List.nil_append] at f7;have K9:K_ w8 w9:=aC G (OU _) (PU S w8.heap.size 109 3) o6;obtain⟨U,V,rfl⟩:=aG f7;have j7:=Kz f7;clear f7 o6 o4 o5;refine c.out _ _ (fun _=>f6.o _ K9) ?_;clear c K f;try simp only[Act.put,upA,upB,upC]
    have f:=f6.o _ K9;refine ae 7 f ?_;have b9:=Kz (j5.o.kept K9);obtain⟨⟨_,c4⟩,c5⟩:=b9.o.row.row.at (i:=1) (by omega);have s6:=b9.o.row.lt;clear f;refine ax 8 (fun K c=>?_);go_simp
    refine c.out _ _ (fun h=>Qi rfl h) ?_;clear c K;try simp only[Act.put,upA,upB,upC]
    refine az ?_;obtain⟨wA,f8⟩:=ag (w9.setCell ⟨r,1,none⟩ (.slice U i.slots.length V));have j8:But (fun x=>x=r) w9 wA:=by rw[f8];exact But.set (S:=fun x=>x=r) (.aj (K_.refl w9)) (p:=⟨r,1,none⟩) rfl _
    have o7:Hid (jl wA r [.int .i64 0,.slice U i.slots.length V,.int .i64 (n:Int),.int .i64 0,.slice none 0 0,.slice none 0 0,.int .i64 0,.int .i64 0,.slice none 0 0]):=by rw[f8];exact b9.o.set (o:=1) (by omega) _
    have j9:=Kz (j8.owns j7.o (fun x e l=>aA (Y_ j7.o e) b9.o.row.type (by decide) l));have b3:Hid (nA v i D wA):=by
     have W:=j3.o.kept K9;exact⟨W.mem.beside (by rw[<-a8.o];exact b9.o.row.type) (by rw[<-a8.o];exact j8),W.live,W.cau,W.bud⟩
    rw[<-f8];clear f8 j8 c4 c5 s6 b9 j7 j3 f6;have f9:=b3.o.mem.at;have k0:=b3.o.mem.kw;rw[i2.o] at k0;rw[<-a2.o,m1.o.2.2] at f9;have o8:hb<wA.heap.size:=by rw[a2.o];exact b3.o.mem.row.lt
    have g0:Hid (∀u,K_ wA u->u.cell? ⟨w.heap.size,0,none⟩=some (.slice a Kq.length cap)/\u.cell? ⟨hb,1,none⟩=some (.slice D.ra b.length D.rc)/\u.cell? ⟨hb,2,none⟩=some (.slice D.d i.T.length D.dc)):=fun u z=>⟨(HC.o u (E.trans (k0.trans z))).1,(z.cell o8).trans f9.2.1,(z.cell o8).trans f9.2.2.1⟩
    have o9:Hid (si (Kk Kq) 0 (eU (bY Kq b) d) (n:Int) i/\iN Kq b i.T):=by
     have Q:=b1.o.way _ _ (.last j2.o o1.o);have hs:=lY (wk:=d) f1.o;have h2:=Q.wrk hs.bP.ok (AZ b6) (fun q e hq=>by
      have h':(List.replicate d (none:Option aX))[q]? =some (some e):=hq;rw[List.getElem?_replicate] at h'
      split at h' <;> simp at h')
     obtain⟨h3,j,s7⟩:=h2.live b6 hs;exact⟨h2,Az HW.o HY.o h3.good f1.o.wf s7⟩
    have p0:=Kz (fun u (z:K_ wA u)=>FU u a cap Kq D.ra D.rc b D.d D.dc i.T (by omega) o9.o.2 (hN.kept (a5.o.trans (E.trans (k0.trans z)))) ((b3.o.mem.kept z).run.runs) (by have h:=(b3.o.mem.kept z).rts.strs;rw[m1.o.2.2] at h;exact h));clear f9;go_wp2
    refine aR 7 g0.o fun S G f=>?_
    refine af 0 f ?_;refine ae 4 f ?_;refine ax 5 (fun K c=>?_);go_simp
    go_at_call 25
    refine (p0.o _ G).mono ?_;rintro e wB ⟨o,J,L,M,N,rfl,p1,p2,p3,kB⟩;have KB:=G.trans kB;have⟨k2,p4,p5⟩:=bA p1 p2 p3;clear kB p1 p2 p3 G;dsimp only;refine c.out _ _ (fun _=>g0.o _ KB) ?_;clear c K f;try simp only[Act.put,upA,upB,upC]
    have f:=g0.o _ KB;refine ae 6 f ?_;have c0:=Kz (o7.o.kept KB);have p6:Hid (wB.there r 3 5):=c0.o.row.row.there (o:=3) (m:=5) (by omega);clear f;refine ax 7 (fun K c=>?_);refine wp_store_mid 31 _ _ rfl r 3 #[.int .i64 o.code,.slice J o.res.length M,.slice L o.chain.length N,.int .i64 o.aY,.int .i64 o.cost] (by rfl) (by rfl) p6.o (by kernel_rfl) (LG ..) ?_;refine c.out _ _ (fun h=>Qi rfl h) ?_;clear c K;try simp only[Act.put]
    refine az ?_;obtain⟨wC,g1⟩:=ag (wB.setCells r 3 [.int .i64 o.code,.slice J o.res.length M,.slice L o.chain.length N,.int .i64 o.aY,.int .i64 o.cost]);have e2:But (fun x=>x=r) wB wC:=by rw[g1];exact But.setCells (S:=fun x=>x=r) rfl _ _ (.aj (K_.refl wB))
    have k4:Hid (jl wC r [.int .i64 0,.slice U i.slots.length V,.int .i64 (n:Int),.int .i64 o.code,.slice J o.res.length M,.slice L o.chain.length N,.int .i64 o.aY,.int .i64 o.cost,.slice none 0 0]):=by
     rw[g1];exact ((((c0.o.set (o:=3) (by omega) _).set (o:=4) (by omega) _).set (o:=5) (by omega) _).set (o:=6) (by omega) _).set (o:=7) (by omega) _
    have k5:Hid (je wB r):=c0.o.Mm (fun u hu s e=>by
     simp only[PS,PT,or_false] at hu;rcases hu with rfl | rfl | rfl | rfl | rfl | rfl | rfl | rfl | rfl <;> cases e)
    have s8:=Kz (Bu p4.o k5.o e2);have s9:=Kz (Ct p5.o k5.o e2);have p7:=Kz (e2.owns (ai j9.o KB) (fun x e l=>aA (Y_ (ai j9.o KB) e) c0.o.row.type (by decide) l));have k7:Hid (nA v i D wC):=by
     have W:=b3.o.kept KB;exact⟨W.mem.beside (by rw[<-a8.o];exact c0.o.row.type) (by rw[<-a8.o];exact e2),W.live,W.cau,W.bud⟩
    have p8:World.setCells wB r 3 (Array.toList #[.int .i64 o.code,.slice J o.res.length M,.slice L o.chain.length N,.int .i64 o.aY,.int .i64 o.cost])=wC:=g1.symm;rw[p8];clear g1 p8 e2 p6 c0 k5 p4 p5 j9 b3 g0 p0 o7;have t0:=k4.o.at' 2 _ rfl;have t1:=k4.o.row.lt;have k8:=Kz (zx (t:=(n:Int)) k7.o f4.o (by omega) (by rw[a1.o];exact o0.o));rw[<-a2.o] at k8;go_wp2_with fail
    refine k8.o.mono ?_;rintro e wD ⟨ca,cc,X,p,rfl,k9,p9,t2,l0,kD⟩;have l1:=k7.o.mem.kw;rw[i2.o] at l1;have l2:=k7.o.mem.obw;rw[i2.o,<-a8.o] at l2;have b4:=Kz (k4.o.kept kD);obtain⟨wE,e3⟩:=ag (wD.setCell ⟨r,8,none⟩ (.slice ca X.length cc));have e4:But (fun x=>x=r) wD wE:=by rw[e3];exact But.set (S:=fun x=>x=r) (.aj (K_.refl wD)) (p:=⟨r,8,none⟩) rfl _
    have O:Hid (jl wE r [.int .i64 0,.slice U i.slots.length V,.int .i64 (n:Int),.int .i64 o.code,.slice J o.res.length M,.slice L o.chain.length N,.int .i64 o.aY,.int .i64 o.cost,.slice ca X.length cc]):=by rw[e3];exact b4.o.set (o:=8) (by omega) _
    have q0:Hid (K_ Y wE):=by rw[e3];exact (l1.trans kD).setCell l2 _
    have l3:Hid (je wD r):=b4.o.Mm (fun u hu s e=>by
     simp only[PS,PT,or_false] at hu;rcases hu with rfl | rfl | rfl | rfl | rfl | rfl | rfl | rfl | rfl <;> cases e)
    have t3:=Kz (Bu (s8.o.kept kD) l3.o e4);have t4:=Kz (Ct (s9.o.kept kD) l3.o e4);have q1:=Kz (e4.owns (ai p7.o kD) (fun x e l=>aA (Y_ (ai p7.o kD) e) b4.o.row.type (by decide) l));have q2:=Kz (e4.owns l0 (fun x e l=>aA (Y_ l0 e) b4.o.row.type (by decide) l));have e5:=Kz (c2.o.kept (E.trans q0.o));have t5:Hid (iA Kq b (d:Int) ⟨0,i.slots,(n:Int),o,X⟩):=by
     refine⟨⟨by show i.slots.length<=3000;omega,k2.o.1.1,k2.o.1.2,by show X.length<=3000;omega⟩,.inl ⟨⟨HW.o,HY.o,by omega,by omega⟩,rfl,i.T, ?_,k2.o⟩⟩;rw[Int.toNat_natCast];exact⟨i,p,o9.o.1,rfl,rfl,by rw[a1.o] at k9;exact k9,p9⟩
    obtain⟨⟨_,c8⟩,c9⟩:=b4.o.row.row.at (i:=8) (by omega);have t6:=b4.o.row.lt;clear k9 p9 t2 l0 l1 l2 e4 t0 t1 k8;go_upto_region 14 with fail
    rw[<-e3];clear e3 c8 c9 t6 kD b4 l3;have e0:=O.o.at' 0 _ rfl;have A:=O.o.at' 1 _ rfl;have l:=O.o.at' 2 _ rfl;have x3:=O.o.at' 3 _ rfl;have x4:=O.o.at' 4 _ rfl;have x5:=O.o.at' 5 _ rfl;have x6:=O.o.at' 6 _ rfl;have x7:=O.o.at' 7 _ rfl;have e8:=O.o.at' 8 _ rfl;have x8:=O.o.row.lt;have C:=e5.o.row;obtain⟨⟨⟨_,g5⟩,g6⟩,⟨⟨_,c4⟩,c5⟩,⟨⟨_,c6⟩,c7⟩,⟨⟨_,g7⟩,g8⟩,⟨⟨_,g9⟩,h0⟩,⟨⟨_,h1⟩,h4⟩,⟨⟨_,h5⟩,h6⟩,⟨⟨_,h7⟩,h8⟩,⟨_,c8⟩,c9⟩:=C.row.EB;have h9:=C.lt;clear C;go_wp2_with fail
    have hX:=OY wE (w.heap.size+1) 0 [.int .i64 0,.slice U i.slots.length V,.int .i64 (n:Int),.int .i64 o.code,.slice J o.res.length M,.slice L o.chain.length N,.int .i64 o.aY,.int .i64 o.cost,.slice ca X.length cc] (e5.o.row.row.there (o:=0) (m:=9) (OU _));have g2:But (fun x=>x=w.heap.size+1) wE (wE.setCells (w.heap.size+1) 0 [.int .i64 0,.slice U i.slots.length V,.int .i64 (n:Int),.int .i64 o.code,.slice J o.res.length M,.slice L o.chain.length N,.int .i64 o.aY,.int .i64 o.cost,.slice ca X.length cc]):=But.setCells (S:=fun x=>x=w.heap.size+1) rfl _ _ (.aj (K_.refl wE));have q3:je wE (w.heap.size+1):=e5.o.Mm (fun u hu s e=>by
     simp only[PS,PT,or_false] at hu;rcases hu with rfl | rfl | rfl | rfl | rfl | rfl | rfl | rfl | rfl <;> cases e)
    refine Zx [.int .i64 0,.slice U i.slots.length V,.int .i64 (n:Int),.int .i64 o.code,.slice J o.res.length M,.slice L o.chain.length N,.int .i64 o.aY,.int .i64 o.cost,.slice ca X.length cc] _ results6 rfl hX underlying33 rfl Tryz.qB rfl ⟨⟨0,i.slots,(n:Int),o,X⟩,U,J,L,ca,V,M,N,cc,rfl,t5.o,⟨?_,Bu t3.o q3 g2,Ct t4.o q3 g2, ?_⟩,bG (g:=w.heap.size+1) (by omega) [.int .i64 0,.slice U i.slots.length V,.int .i64 (n:Int),.int .i64 o.code,.slice J o.res.length M,.slice L o.chain.length N,.int .i64 o.aY,.int .i64 o.cost,.slice ca X.length cc] 0 (a5.o.trans (E.trans q0.o))⟩
    ·exact (lN (g2.owns q1.o (fun x e l=>aA (Y_ q1.o e) e5.o.row.type (by decide) l))).2
    ·exact (lN (g2.owns q2.o (fun x e l=>aA (Y_ q2.o e) e5.o.row.type (by decide) l))).2
