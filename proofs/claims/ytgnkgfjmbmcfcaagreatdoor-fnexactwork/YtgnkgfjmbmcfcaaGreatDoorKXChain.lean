import Derived.Test.YtgnkgfjmbmcfcaaGreatDoorKDHas
import Derived.Test.YtgnkgfjmbmcfcaaGreatDoorKHSlots
import Derived.Test.YtgnkgfjmbmcfcaaGreatDoorKXJoin
set_option maxRecDepth 100000
set_option maxHeartbeats 25600000
namespace Go.Proofs.YtgnkgfjmbmcfcaaGreatDoor
open Go.RowKit Go.Proofs.Tryz
def oL(w:Qy)(lo hi:Nat)(a:Qx)(l:List Qw):Prop:=∀i,i<l.length->∃b o,a=some ⟨b,o,none⟩/\(lo<=b/\b<hi)/\b<w.heap.size/\w.cell? ⟨b,o+i,none⟩=some (.string (l.getD i ByteArray.empty))
def qc(w:Qy)(lo hi:Nat)(a:Qx)(l:List Q_):Prop:=
 ∀i,i<l.length->∃b o xa xc,a=some ⟨b,o,none⟩/\(lo<=b/\b<hi)/\b<w.heap.size/\w.rangeAt b (o+i*7) ((l.getD i Q_.zero).cells xa xc)/\oL w lo hi xa (l.getD i Q_.zero).texts/\(xa=none->xc=0)
section
variable {w w' : Qy} {lo hi : Nat} {a : Qx}
theorem oL.but{l:List Qw}{P:Nat->Prop}(h:oL w lo hi a l)(k:But P w w')(f:∀x,P x->¬(lo<=x/\x<hi)):oL w' lo hi a l:=fun i g=>by
 obtain⟨b,o,e,c,d,j⟩:=h i g;exact⟨b,o,e,c,OV d k.size,(k.cell d (fun x=>f b x c)).trans j⟩
theorem oL.strs{l:List Qw}(h:oL w lo hi a l):Strs w a l:=fun i c=>by
 obtain⟨b,o,e,_,d,f⟩:=h i c;exact⟨b,o,e,d,f⟩
theorem qc.but{l:List Q_}{P:Nat->Prop}(h:qc w lo hi a l)(k:But P w w')(b:∀x,P x->¬(lo<=x/\x<hi)):qc w' lo hi a l:=fun i f=>by
 obtain⟨c,o,g,j,m,d,e,n,p,q⟩:=h i f;exact⟨c,o,g,j,m,d,OV e k.size,fun r v s=>(k.cell e (fun x=>b c x d)).trans (n r v s),p.but k b,q⟩
theorem qc.runs{l:List Q_}(h:qc w lo hi a l):gD w a l:=fun i c=>by
 obtain⟨b,o,d,f,e,_,g,j,k,m⟩:=h i c;exact⟨b,o,d,f,e,g,j,k.strs,m⟩
end
theorem ry.stretch{c:List Qw}{T:List Q_}{w w':Qy}{e:Ending}(x:ry c T w w' e):∃f rc d dc,e= .returned (.agg #[.slice f c.length rc,.slice d T.length dc])/\oL w' w.heap.size w'.heap.size f c/\qc w' w.heap.size w'.heap.size d T/\K_ w w':=by
 obtain⟨f,rc,d,dc,S,rfl,p,j,y,k⟩:=x;refine⟨f,rc,d,dc,rfl,fun i b=>?_,fun i b=>?_,k⟩
 ·rcases p.2 with⟨e,q⟩|⟨g,z,A,e,h,r,U,_,_,_⟩
  ·rw[q] at b;exact aB b
  ·injection e with l B s;subst l s;have:=p.cells (g:=g) rfl i (.string (c.getD i ByteArray.empty)) (by simp[List.getD,b]);rw[PQ] at this;exact⟨g,0,rfl,⟨h,aV r⟩,aV r,this⟩
 ·obtain⟨_,V,W,C,D⟩:=cK.runs j y (K_.refl w');injection C with l B s;subst l;obtain⟨m,o,E,F,e,h,G,H,I,J⟩:=D i b;have K:w.heap.size<=m:=by
   have:=j.lt m (by rw[e];rcases j.2 with⟨n,q⟩|⟨g,z,A,n,_⟩;(injection n with a;rw[e] at a;cases a);(injection n with a;rw[e] at a;injection a with a;injection a with L M;subst L M;rfl));exact this.1
  refine⟨m,o,E,F,e,⟨K,h⟩,h,G,fun N O=>?_,I⟩;obtain⟨P,Q,t,v,R⟩:=H N O;exact⟨P,Q,t,⟨J _ t,v⟩,v,R⟩
def dD :Option aX->List QA
 | some e=>[.string e.name,.int .i64 e.fin,.int .i64 (e.slot:Int)]
 | none=>[.string ⟨#[]⟩,.int .i64 0,.int .i64 0]
theorem yD(x:Option aX):(dD x).length=3:=by cases x <;> rfl
def iW :List (Qw×Int)->List QA
 | []=>[]
 | c :: r=>.string c.1 :: .int .i64 c.2 :: iW r
theorem uO :∀(l:List (Qw×Int)) (i:Nat) (h:i<l.length),(iW l)[i*2]? =some (.string l[i].1)/\(iW l)[i*2+1]? =some (.int .i64 l[i].2)
 | [],_,h=>aB h
 | c :: r,0,_=>⟨rfl,rfl⟩
 | c :: r,i+1,h=>by
  have:=uO r i (by simpa using h);rw[show (i+1)*2=i*2+1+1 by omega];simpa[iW] using this
def oH :List (Qw×Int)->Qw->Int
 | [],_=>-1
 | c :: r,n=>if c.1=n then c.2 else oH r n
structure fD where
 Kq:List Qz
 Kj:List Qw
 wk:Nat
 w0:Qy
 hb:Nat
 bsb:Nat
 a:Qx
 cap:Nat
 ob:Nat
structure iy where
 ra:Qx
 rc:Nat
 d:Qx
 dc:Nat
 lo:Nat
 hi:Nat
 sa:Qx
 sc:Nat
 ba:Qx
 bc:Nat
 ca:Qx
 cc:Nat
 cl:List (Qw×Int)
def iy.own(D:iy)(c:fD)(S:aS)(x:Nat):Prop:=x=c.hb\/x=c.bsb\/(Value.slice D.sa S.slots.length D.sc).ownBlock=some x\/(Value.slice D.ba S.back.length D.bc).ownBlock=some x
structure bi (c:fD) (S:aS) (D:iy) (w:Qy):Prop where
 kw:K_ c.w0 w
 row:aL w c.hb 59 7
 cel:w.rangeAt c.hb 0 [.slice c.a c.Kq.length c.cap,.slice D.ra c.Kj.length D.rc,.slice D.d S.T.length D.dc,.slice (some ⟨c.bsb,0,none⟩) c.wk c.wk,.slice D.sa S.slots.length D.sc,.slice D.ba S.back.length D.bc,.slice D.ca D.cl.length D.cc]
 hlow:c.w0.heap.size<=c.hb
 za:c.w0.heap.size<=c.bsb
 len:S.busy.length=c.wk
 iq:aL w c.bsb 98 (c.wk*3)
 bsy:∀k,k<c.wk->w.rangeAt c.bsb (k*3) (dD (S.busy.getD k none))
 slt:w.ownsRow c.w0.heap.size 109 3 (.slice D.sa S.slots.length D.sc) S.slots.length (bI S.slots)
 bak:w.ownsRow c.w0.heap.size 3 1 (.slice D.ba S.back.length D.bc) S.back.length (S.back.map (Value.int .i64))
 cau:w.ownsRow c.w0.heap.size 177 2 (.slice D.ca D.cl.length D.cc) D.cl.length (iW D.cl)
 run:qc w D.lo D.hi D.d S.T
 rts:oL w D.lo D.hi D.ra c.Kj
 sep:∀x,D.own c S x->¬(D.lo<=x/\x<D.hi)
 top:D.hi<=w.heap.size
 obw:c.w0.heap.size<=c.ob
 obl:c.ob<w.heap.size
 obs:¬(D.lo<=c.ob/\c.ob<D.hi)
variable {w1 : Qy}
section
variable {c : fD} {S : aS} {D : iy} {w w' : Qy}
theorem bi.at(h:bi c S D w):w.cell? ⟨c.hb,0,none⟩=some (.slice c.a c.Kq.length c.cap)/\w.cell? ⟨c.hb,1,none⟩=some (.slice D.ra c.Kj.length D.rc)/\w.cell? ⟨c.hb,2,none⟩=some (.slice D.d S.T.length D.dc)/\w.cell? ⟨c.hb,3,none⟩=some (.slice (some ⟨c.bsb,0,none⟩) c.wk c.wk)/\w.cell? ⟨c.hb,4,none⟩=some (.slice D.sa S.slots.length D.sc)/\w.cell? ⟨c.hb,5,none⟩=some (.slice D.ba S.back.length D.bc)/\w.cell? ⟨c.hb,6,none⟩=some (.slice D.ca D.cl.length D.cc):=
 ⟨h.cel 0 _ rfl,h.cel 1 _ rfl,h.cel 2 _ rfl,h.cel 3 _ rfl,h.cel 4 _ rfl,h.cel 5 _ rfl,h.cel 6 _ rfl⟩
theorem bi.low(h:bi c S D w){x:Nat}(d:D.own c S x):c.w0.heap.size<=x/\x<w.heap.size:=by
 rcases d with rfl|rfl|e|e
 ·exact⟨h.hlow,h.row.lt⟩
 ·exact⟨h.za,h.iq.lt⟩
 ·exact h.slt.lt x e
 ·exact h.bak.lt x e
theorem bi.ne(h:bi c S D w):c.bsb≠c.hb/\(∀x,(Value.slice D.sa S.slots.length D.sc).ownBlock=some x->x≠c.hb/\x≠c.bsb)/\(∀x,(Value.slice D.ba S.back.length D.bc).ownBlock=some x->x≠c.hb/\x≠c.bsb/\(Value.slice D.sa S.slots.length D.sc).ownBlock≠some x)/\∀x,(Value.slice D.ca D.cl.length D.cc).ownBlock=some x->¬D.own c S x:=by
 refine⟨aA h.iq.type h.row.type (by decide),fun x e=>⟨aA (Y_ h.slt e) h.row.type (by decide),aA (Y_ h.slt e) h.iq.type (by decide)⟩,fun x e=>⟨aA (Y_ h.bak e) h.row.type (by decide),aA (Y_ h.bak e) h.iq.type (by decide),fun a=>aA (Y_ h.bak e) (Y_ h.slt a) (by decide) rfl⟩,fun x e b=>?_⟩;rcases b with a | a | a | a
 ·exact aA (Y_ h.cau e) h.row.type (by decide) a
 ·exact aA (Y_ h.cau e) h.iq.type (by decide) a
 ·exact aA (Y_ h.cau e) (Y_ h.slt a) (by decide) rfl
 ·exact aA (Y_ h.cau e) (Y_ h.bak a) (by decide) rfl
theorem bi.stays{P:Nat->Prop}(h:bi c S D w)(k:But P w w')(b:∀x,P x->D.own c S x):K_ c.w0 w'/\qc w' D.lo D.hi D.d S.T/\oL w' D.lo D.hi D.ra c.Kj/\w'.ownsRow c.w0.heap.size 177 2 (.slice D.ca D.cl.length D.cc) D.cl.length (iW D.cl):=
 ⟨k.kept h.kw (fun e f=>(h.low (b e f)).1),h.run.but k (fun x a=>h.sep x (b x a)),h.rts.but k (fun x a=>h.sep x (b x a)),k.owns h.cau (fun x g a=>h.ne.2.2.2 x g (b x a))⟩
theorem bi.kept(h:bi c S D w)(k:K_ w w'):bi c S D w':=by
 have a:But (fun _=>False) w w':= .aj k;obtain⟨b,d,e,f⟩:=h.stays a (fun _ g=>g.elim);exact⟨b,h.row.kept k,k.range h.row.lt h.cel,h.hlow,h.za,h.len,h.iq.kept k,fun j i=>k.range h.iq.lt (h.bsy j i),a.owns h.slt (fun _ _=>id),a.owns h.bak (fun _ _=>id),f,d,e,h.sep,OX h.top k.size,h.obw,OV h.obl k.size,h.obs⟩
theorem bi.beside(h:bi c S D w)(a:bZ w c.ob 33)(k:But (fun x=>x=c.ob) w w'):bi c S D w':=by
 have f:¬c.hb=c.ob:=fun e=>aA h.row.type a (by decide) e
 have g:¬c.bsb=c.ob:=fun e=>aA h.iq.type a (by decide) e
 have i:∀x,x=c.ob->¬(D.lo<=x/\x<D.hi):=fun x e=>by rw[e];exact h.obs
 exact⟨k.kept h.kw (fun b e=>by rw[e];exact h.obw),k.row h.row f,k.range h.row f h.cel,h.hlow,h.za,h.len,k.row h.iq g,fun j l=>k.range h.iq g (h.bsy j l),k.owns h.slt (fun x e d=>aA (Y_ h.slt e) a (by decide) d),k.owns h.bak (fun x e d=>aA (Y_ h.bak e) a (by decide) d),k.owns h.cau (fun x e d=>aA (Y_ h.cau e) a (by decide) d),h.run.but k i,h.rts.but k i,h.sep,OX h.top k.size,h.obw,OV h.obl k.size,h.obs⟩
theorem lF{w:Qy}{b:Nat}{t:TypeId}{c:List QA}(d:aL w b t 7)(h:w.rangeAt b 0 c){o:Nat}(j:o<7)(v:QA):(w.setCell ⟨b,o,none⟩ v).rangeAt b 0 (c.set o v):=fun i u a=>by
 rw[PD];by_cases e:i=o
 ·subst e;by_cases f:i<c.length
  ·rw[Qe f] at a;cases a;exact OY w b i [v] (d.row.there (o:=i) (m:=1) (by omega)) 0 _ rfl
  ·rw[List.getElem?_eq_none (by rw[Qd];omega)] at a;cases a
 ·rw[Pp (fun x=>e x.symm)] at a;rw[Pq _ _ _ _ (by intro g;injection g with _ k _;omega)];have:=h i u a
  rwa [PD] at this
theorem bi.state(h:bi c S D w)(k:K_ w w1){T:List Q_}{g d:Qx}{rc dc:Nat}(n:oL w1 w.heap.size w1.heap.size g c.Kj)(q:qc w1 w.heap.size w1.heap.size d T){S':aS}(i:S'.T=T)(f:S'.busy=S.busy)(j:S'.slots=S.slots)(l:S'.back=S.back):
  bi c S' {D with ra:=g,rc:=rc,d:=d,dc:=dc,lo:=w.heap.size,hi:=w1.heap.size} ((w1.setCell ⟨c.hb,1,none⟩ (.slice g c.Kj.length rc)).setCell ⟨c.hb,2,none⟩ (.slice d T.length dc)):=by
 have a:=h.kept k;have e:But (fun x=>x=c.hb) w1 ((w1.setCell ⟨c.hb,1,none⟩ (.slice g c.Kj.length rc)).setCell ⟨c.hb,2,none⟩ (.slice d T.length dc)):=But.set (S:=fun x=>x=c.hb) (But.set (S:=fun x=>x=c.hb) (.aj (K_.refl w1)) (p:=⟨c.hb,1,none⟩) rfl _) (p:=⟨c.hb,2,none⟩) rfl _;obtain⟨r,_,_,s⟩:=a.stays e (fun x b=>.inl b);have z:=h.row.lt;have m:∀x,x=c.hb->¬(w.heap.size<=x/\x<w1.heap.size):=fun x b=>by omega
 obtain⟨A,B,C,E,F⟩:=S';dsimp only at i f j l;subst i f j l;refine⟨r,(a.row.set _).set _, ?_,h.hlow,h.za,h.len,e.row a.iq h.ne.1,fun t v=>e.range a.iq h.ne.1 (a.bsy t v),e.owns a.slt (fun x b f=>(h.ne.2.1 x b).1 f),e.owns a.bak (fun x b f=>(h.ne.2.2.1 x b).1 f),s,q.but e m,n.but e m,fun x y b=>?_, ?_,h.obw,Nat.lt_of_lt_of_le a.obl e.size,fun b=>?_⟩
 ·exact lF (a.row.set _) (lF a.row a.cel (o:=1) (by omega) _) (o:=2) (by omega) _
 ·have:=(h.low (x:=x) y).2;dsimp only at b;omega
 ·show w1.heap.size<=_;rw[size_setCell,size_setCell];exact OU _
 ·have:=h.obl;dsimp only at b;omega
theorem bi.Mj(h:bi c S D w)(k:K_ w w1){ca:Qx}{cc:Nat}{cl:List (Qw×Int)}(f:w1.ownsRow c.w0.heap.size 177 2 (.slice ca cl.length cc) cl.length (iW cl)):bi c S {D with ca:=ca,cc:=cc,cl:=cl} (w1.setCell ⟨c.hb,6,none⟩ (.slice ca cl.length cc)):=by
 have a:=h.kept k;have b:But (fun x=>x=c.hb) w1 (w1.setCell ⟨c.hb,6,none⟩ (.slice ca cl.length cc)):=But.set (S:=fun x=>x=c.hb) (.aj (K_.refl w1)) (p:=⟨c.hb,6,none⟩) rfl _;obtain⟨g,i,j,_⟩:=a.stays b (fun x d=>.inl d);exact⟨g,a.row.set _,lF a.row a.cel (o:=6) (by omega) _,h.hlow,h.za,h.len,b.row a.iq h.ne.1,fun l m=>b.range a.iq h.ne.1 (a.bsy l m),b.owns a.slt (fun x d e=>(h.ne.2.1 x d).1 e),b.owns a.bak (fun x d e=>(h.ne.2.2.1 x d).1 e),b.owns f (fun x d e=>aA (Y_ f d) a.row.type (by decide) e),i,j,a.sep,by show D.hi<=_;rw[size_setCell];exact a.top,h.obw,OV a.obl b.size,h.obs⟩
theorem bi.worker(h:bi c S D w){k:Nat}(g:k<c.wk)(x:Option aX):bi c {S with busy:=S.busy.set k x} D (w.setCells c.bsb (k*3) (dD x)):=by
 have a:But (fun y=>y=c.bsb) w (w.setCells c.bsb (k*3) (dD x)):=But.setCells (S:=fun y=>y=c.bsb) rfl _ _ (.aj (K_.refl w));obtain⟨i,l,n,p⟩:=h.stays a (fun y e=>.inr (.inl e));have f:¬c.hb=c.bsb:=fun e=>h.ne.1 e.symm
 refine⟨i,a.row h.row f,a.range h.row f h.cel,h.hlow,h.za,by show (S.busy.set k x).length=_;rw[Qd];exact h.len,aL.sets _ _ h.iq,fun j q=>?_,a.owns h.slt (fun y e b=>(h.ne.2.1 y e).2 b),a.owns h.bak (fun y e b=>(h.ne.2.2.1 y e).2.1 b),p,l,n,h.sep,OX h.top a.size,h.obw,OV h.obl a.size,h.obs⟩;show (w.setCells c.bsb (k*3) (dD x)).rangeAt c.bsb (j*3) (dD ((S.busy.set k x).getD j none));by_cases e:j=k
 ·subst e;have d:(S.busy.set j x).getD j none=x:=by simp[List.getD,h.len,g]
  rw[d];exact OY w c.bsb (j*3) (dD x) (by rw[yD];exact h.iq.row.there (o:=j*3) (m:=3) (by omega))
 ·have d:(S.busy.set k x).getD j none=S.busy.getD j none:=by simp only[List.getD];rw[Pp (fun y=>e y.symm)]
  rw[d];exact Pm (h.bsy j q) c.bsb (k*3) (dD x) (by rw[yD,yD];omega)
theorem bi.Mq(h:bi c S D w){f:Qy}(l:K_ w f){g cp:Nat}{s:aF}(m:w1.ownsRow c.w0.heap.size 109 3 (.slice (some ⟨g,0,none⟩) (S.slots.length+1) cp) (S.slots.length+1) (bI S.slots++s.cells))(t:f.grownBy w1 (Value.slice D.sa S.slots.length D.sc).ownBlock)(v:(Value.slice D.sa S.slots.length D.sc).ownBlock=some g\/g=f.heap.size):
  bi c {S with slots:=S.slots++ [s]} {D with sa:=some ⟨g,0,none⟩,sc:=cp} (w1.setCell ⟨c.hb,4,none⟩ (.slice (some ⟨g,0,none⟩) (S.slots.length+1) cp))/\w1.frozen? ⟨c.hb,4,none⟩=false:=by
 have a:=h.kept l;have k:But (fun x=>(Value.slice D.sa S.slots.length D.sc).ownBlock=some x) f w1:= .aQ t (fun _ e=>e);have d:But (fun x=>x=c.hb\/(Value.slice D.sa S.slots.length D.sc).ownBlock=some x) f (w1.setCell ⟨c.hb,4,none⟩ (.slice (some ⟨g,0,none⟩) (S.slots.length+1) cp)):=(k.mono (fun _ _ e=>.inr e)).set (p:=⟨c.hb,4,none⟩) (.inl rfl) _;have y:But (fun x=>x=c.hb) w1 (w1.setCell ⟨c.hb,4,none⟩ (.slice (some ⟨g,0,none⟩) (S.slots.length+1) cp)):=But.set (S:=fun x=>x=c.hb) (.aj (K_.refl w1)) (p:=⟨c.hb,4,none⟩) rfl _;obtain⟨z,A,B,C⟩:=a.stays d (fun x e=>by rcases e with e | e;exact .inl e;exact .inr (.inr (.inl e)));have n:¬(Value.slice D.sa S.slots.length D.sc).ownBlock=some c.hb:=fun e=>(h.ne.2.1 _ e).1 rfl
 have j:=k.row a.row n;have q:¬(c.bsb=c.hb\/(Value.slice D.sa S.slots.length D.sc).ownBlock=some c.bsb):=by
  rintro (e|e)
  ·exact h.ne.1 e
  ·exact (h.ne.2.1 _ e).2 rfl
 have r:(S.slots++ [s]).length=S.slots.length+1:=by simp
 have E:=(j.row.at (i:=4) (by omega)).2;refine⟨⟨z,j.set _, ?_,h.hlow,h.za,h.len,d.row a.iq q,fun F G=>d.range a.iq q (a.bsy F G), ?_,d.owns a.bak (fun x e b=>?_),C,A,B,fun x H=>?_,OX a.top d.size,h.obw,OV a.obl d.size,h.obs⟩,E⟩
 ·show (w1.setCell _ _).rangeAt c.hb 0 [_,_,_,_,.slice (some ⟨g,0,none⟩) (S.slots++ [s]).length cp,_,_];rw[r];exact lF j (k.range a.row n a.cel) (o:=4) (by omega) _
 ·show (w1.setCell _ _).ownsRow _ _ 3 (.slice (some ⟨g,0,none⟩) (S.slots++ [s]).length cp) (S.slots++ [s]).length (bI (S.slots++ [s]));rw[r,kP];exact y.owns m (fun x e b=>by rw[b] at e;exact aA (Y_ m e) j.type (by decide) rfl)
 ·rcases b with b|b
  ·exact (h.ne.2.2.1 x e).1 b
  ·exact (h.ne.2.2.1 x e).2.2 b
 ·rcases H with e|e|e|e
  ·exact h.sep x (.inl e)
  ·exact h.sep x (.inr (.inl e))
  ·have I:g=x:=by injection e
   rcases v with b|b
   ·exact h.sep x (.inr (.inr (.inl (by rw[b,I]))))
   ·have K:=h.top;have L:=l.size;intro J;dsimp only at J;omega
  ·exact h.sep x (.inr (.inr (.inr e)))
theorem bi.LM(h:bi c S D w){f:Qy}(l:K_ w f){g cp:Nat}{s:Int}(m:w1.ownsRow c.w0.heap.size 3 1 (.slice (some ⟨g,0,none⟩) (S.back.length+1) cp) (S.back.length+1) (S.back.map (Value.int .i64)++ [.int .i64 s]))(t:f.grownBy w1 (Value.slice D.ba S.back.length D.bc).ownBlock)(v:(Value.slice D.ba S.back.length D.bc).ownBlock=some g\/g=f.heap.size):
  bi c {S with back:=S.back++ [s]} {D with ba:=some ⟨g,0,none⟩,bc:=cp} (w1.setCell ⟨c.hb,5,none⟩ (.slice (some ⟨g,0,none⟩) (S.back.length+1) cp))/\w1.frozen? ⟨c.hb,5,none⟩=false:=by
 have a:=h.kept l;have k:But (fun x=>(Value.slice D.ba S.back.length D.bc).ownBlock=some x) f w1:= .aQ t (fun _ e=>e);have d:But (fun x=>x=c.hb\/(Value.slice D.ba S.back.length D.bc).ownBlock=some x) f (w1.setCell ⟨c.hb,5,none⟩ (.slice (some ⟨g,0,none⟩) (S.back.length+1) cp)):=(k.mono (fun _ _ e=>.inr e)).set (p:=⟨c.hb,5,none⟩) (.inl rfl) _;have y:But (fun x=>x=c.hb) w1 (w1.setCell ⟨c.hb,5,none⟩ (.slice (some ⟨g,0,none⟩) (S.back.length+1) cp)):=But.set (S:=fun x=>x=c.hb) (.aj (K_.refl w1)) (p:=⟨c.hb,5,none⟩) rfl _;obtain⟨z,A,B,C⟩:=a.stays d (fun x e=>by rcases e with e | e;exact .inl e;exact .inr (.inr (.inr e)));have n:¬(Value.slice D.ba S.back.length D.bc).ownBlock=some c.hb:=fun e=>(h.ne.2.2.1 _ e).1 rfl
 have j:=k.row a.row n;have q:¬(c.bsb=c.hb\/(Value.slice D.ba S.back.length D.bc).ownBlock=some c.bsb):=by
  rintro (e|e)
  ·exact h.ne.1 e
  ·exact (h.ne.2.2.1 _ e).2.1 rfl
 have r:(S.back++ [s]).length=S.back.length+1:=by simp
 have E:=(j.row.at (i:=5) (by omega)).2;refine⟨⟨z,j.set _, ?_,h.hlow,h.za,h.len,d.row a.iq q,fun F G=>d.range a.iq q (a.bsy F G),d.owns a.slt (fun x e b=>?_), ?_,C,A,B,fun x H=>?_,OX a.top d.size,h.obw,OV a.obl d.size,h.obs⟩,E⟩
 ·show (w1.setCell _ _).rangeAt c.hb 0 [_,_,_,_,_,.slice (some ⟨g,0,none⟩) (S.back++ [s]).length cp,_];rw[r];exact lF j (k.range a.row n a.cel) (o:=5) (by omega) _
 ·rcases b with b|b
  ·exact (h.ne.2.1 x e).1 b
  ·exact (h.ne.2.2.1 x b).2.2 e
 ·show (w1.setCell _ _).ownsRow _ _ 1 (.slice (some ⟨g,0,none⟩) (S.back++ [s]).length cp) (S.back++ [s]).length ((S.back++ [s]).map (Value.int .i64));rw[r,Qm];exact y.owns m (fun x e b=>by rw[b] at e;exact aA (Y_ m e) j.type (by decide) rfl)
 ·rcases H with e|e|e|e
  ·exact h.sep x (.inl e)
  ·exact h.sep x (.inr (.inl e))
  ·exact h.sep x (.inr (.inr (.inl e)))
  ·have I:g=x:=by injection e
   rcases v with b|b
   ·exact h.sep x (.inr (.inr (.inr (by rw[b,I]))))
   ·have K:=h.top;have L:=l.size;intro J;dsimp only at J;omega
end
theorem iJ.asc{W:aZ}{σ:Env}{l:List Q_}{b:List Qw}(h:iJ W σ l b)(c:dB l):b.Pairwise aH:=by
 induction h with
 | nil=>exact .nil
 | yes h hr ih=>
  rename_i l b r
  have d:=Py.1 c;refine Py.2 ⟨ih d.1,List.pairwise_singleton _ _,fun a g j e=>?_⟩;rw[Pd] at e;subst e;obtain⟨x,i,rfl,_⟩:=(h.mem a).1 g;exact d.2.2 x i r (by simp)
 | no h hr ih=>exact ih (Py.1 c).1
def lI :List (Option aX)->Nat
 | []=>0
 | none :: l=>lI l
 | some _ :: l=>lI l+1
theorem xh :∀{b:List (Option aX)} {k:Nat} {e:aX},b[k]? =some (some e)->lI (b.set k none)+1=lI b
 | x :: b,0,e,h=>by
  simp only[P_,PN] at h;subst h
  rfl
 | x :: b,k+1,e,h=>by
  have:=xh (b:=b) (k:=k) (e:=e) (by simpa using h);cases x <;> simp only[PX,lI] <;> omega
theorem xQ :∀{b:List (Option aX)} {k:Nat} (e:aX),b[k]? =some none->lI (b.set k (some e))=lI b+1
 | x :: b,0,e,h=>by
  simp only[P_,PN] at h;subst h
  rfl
 | x :: b,k+1,e,h=>by
  have:=xQ (b:=b) (k:=k) e (by simpa using h);cases x <;> simp only[PX,lI] <;> omega
theorem wZ :∀(b:List (Option aX)),lI b<=b.length
 | []=>OU _
 | none :: b=>by have:=wZ b;simp only[lI,PP];omega
 | some _ :: b=>by have:=wZ b;simp only[lI,PP];omega
structure vQ (Kq:List Qz) (S:aS):Prop where
 sl:S.slots.length+mE Kq S.T<=2000+lI S.busy
 fin:∀(k:Nat) (e:aX),S.busy[k]? =some (some e)->0<=e.fin/\e.fin<=20*(S.slots.length:Int)
section
variable {Kq : List Qz} {wk : Nat} {S A : aS}
theorem su(b:dU Kq S.T){n:Qw}{j:Int}(c:Rdy (Kk Kq) S n):mE Kq (doneS (Kk Kq) S n j).T<mE Kq S.T:=by
 obtain⟨r,a,d⟩:=c;show mE Kq (doN (Kk Kq) S.T n)<_;unfold doN;rw[a];exact MM b a d
theorem kH.bnd(g:a_ (Kk Kq)){t:Int}(h:kH (Kk Kq) t S A):eu Kq wk S->vQ Kq S->vQ Kq A/\A.slots=S.slots:=by
 induction h with
 | stop=>exact fun _ a=>⟨a,rfl⟩
 | @go S S' k e hk he _ _ ih=>
  intro c a;obtain⟨d,f,i⟩:=c.free hk;obtain⟨l,r⟩:=d.done g f i (j:=e.slot) ⟨by omega,by have:=c.bP.slot k e hk;show ((e.slot:Nat):Int)<((S.slots.length:Nat):Int);omega⟩;have m:=su d.good (j:=(e.slot:Int)) f;have s:=xh hk;have v:=a.sl;refine ih l ⟨?_,fun n p q=>?_⟩
  ·show S.slots.length+mE Kq (doneS (Kk Kq) {S with busy:=S.busy.set k none} e.name e.slot).T<=2000+lI (S.busy.set k none);have w:mE Kq (doneS (Kk Kq) {S with busy:=S.busy.set k none} e.name e.slot).T<mE Kq S.T:=m;omega
  ·rcases iF q with⟨_,x⟩|⟨_,x⟩
   ·cases x
   ·exact a.fin n p x
theorem lS.bnd(c:a_ (Kk Kq))(h:lS (Kk Kq) S A):eu Kq wk S->vQ Kq S->vQ Kq A/\A.slots=S.slots:=by
 induction h with
 | stop=>exact fun _ a=>⟨a,rfl⟩
 | @go S S' n hn _ ih=>
  intro b a;obtain⟨d,e⟩:=b.done c hn.1.ready (fun a=>b.nsp n a hn.1) (b.bP.iV n);have f:=su b.good (j:=S.cause n) hn.1.ready;have g:=a.sl;refine ih d ⟨?_,a.fin⟩;show S.slots.length+mE Kq (doneS (Kk Kq) S n (S.cause n)).T<=2000+lI S.busy;omega
theorem j_.bnd{t:Int}(h:j_ (Kk Kq) t S A):(∀n,bD (Kk Kq) (Qq S.T) n->0<=aM (Kk Kq) n/\aM (Kk Kq) n<=20)->(0<=t/\t<=20*(S.slots.length:Int))->vQ Kq S->vQ Kq A/\S.slots.length<=A.slots.length:=by
 induction h with
 | stop=>exact fun _ _ a=>⟨a,OU _⟩
 | @go S S' k n hk hl hn _ ih=>
  intro d e a;have l:=d n hn.1.1;have b:(S.slots++ [(⟨t,k,n⟩:aF)]).length=S.slots.length+1:=by simp
  obtain⟨f,g⟩:=ih d ⟨e.1,by show t<=20*(((S.slots++ [(⟨t,k,n⟩:aF)]).length:Nat):Int);rw[b];omega⟩ ⟨by
   show (S.slots++ [(⟨t,k,n⟩:aF)]).length+mE Kq S.T<=2000+lI (S.busy.set k (some _));rw[b,xQ _ hk];have:=a.sl;omega,fun i c j=>by
   show 0<=c.fin/\c.fin<=20*(((S.slots++ [(⟨t,k,n⟩:aF)]).length:Nat):Int);rw[b];rcases iF j with⟨_,x⟩|⟨_,x⟩
   ·simp only[PN] at x;subst x;simp only;omega
   ·have:=a.fin i c x;omega⟩
  refine⟨f,OX ?_ g⟩;show S.slots.length<=(S.slots++ [(⟨t,k,n⟩:aF)]).length;rw[b];exact Nat.le_succ _
end
open Classical in
def nO(was ns:List Qw)(n:Qw)(j:Int)(cl:List (Qw×Int))(i:Nat)(cl':List (Qw×Int)):Prop:=
 cl'.length<=cl.length+i/\∀m,oH cl' m=if m∈ns.take i/\(m=n\/m∉was) then j else oH cl m
section
variable {was ns : List Qw} {n : Qw} {j : Int} {cl cl' : List (Qw × Int)} {i : Nat}
theorem nO.start :nO was ns n j cl 0 cl:=⟨OU _,fun m=>by rw[Qh (by simp)]⟩
theorem nO.yes(h:nO was ns n j cl i cl')(hi:i<ns.length)(hy:ns[i]=n\/ns[i]∉was):nO was ns n j cl (i+1) ((ns[i],j) :: cl'):=by
 refine⟨by have:=h.1;simp only[PP];omega,fun m=>?_⟩;rw[Pb hi];show (if ns[i]=m then j else oH cl' m)=_;by_cases e:ns[i]=m
 ·rw[Qg e,Qg ⟨by rw[e];simp,by rw[<-e];exact hy⟩]
 ·rw[Qh e,h.2 m];by_cases g:m∈ns.take i/\(m=n\/m∉was)
  ·rw[Qg g,Qg ⟨Pe.2 (.inl g.1),g.2⟩]
  ·rw[Qh g,Qh (fun x=>g ⟨(Pe.1 x.1).resolve_right (fun y=>e (Pd.1 y).symm),x.2⟩)]
theorem nO.no(h:nO was ns n j cl i cl')(hi:i<ns.length)(hy:¬(ns[i]=n\/ns[i]∉was)):nO was ns n j cl (i+1) cl':=by
 refine⟨by have:=h.1;omega,fun m=>?_⟩;rw[Pb hi,h.2 m];by_cases g:m∈ns.take i/\(m=n\/m∉was)
 ·rw[Qg g,Qg ⟨Pe.2 (.inl g.1),g.2⟩]
 ·rw[Qh g,Qh (fun x=>?_)];rcases Pe.1 x.1 with y | y
  ·exact g ⟨y,x.2⟩
  ·rw[Pd] at y;exact hy (y ▸ x.2)
end
structure m_ (c:fD):Prop where
 ok:a_ (Kk c.Kq)
 fits:∀y∈c.Kq,y.Fits
 len:c.Kq.length<=60
 sml:kY c.Kq
 rts:1<=c.Kj.length/\c.Kj.length<=10
 nodes:bJ c.w0 c.a c.Kq
 wk:1<=c.wk/\c.wk<=60
structure nA (c:fD) (S:aS) (D:iy) (w:Qy):Prop where
 mem:bi c S D w
 live:eu c.Kq c.wk S
 cau:∀n,Rdy (Kk c.Kq) S n->oH D.cl n=S.cause n
 bud:D.cl.length+60*mE c.Kq S.T<=90000
def jX(c:fD)(S:aS)(w:Qy):Prop:=∃D,nA c S D w
section
variable {c : fD} {S : aS} {D : iy} {w w' : Qy}
theorem nA.kept(h:nA c S D w)(k:K_ w w'):nA c S D w':=⟨h.mem.kept k,h.live,h.cau,h.bud⟩
theorem nA.len(h:nA c S D w)(b:m_ c):S.T.length<=60:=OX h.live.good.len b.len
theorem nA.cost(h:nA c S D w)(b:m_ c){n:Qw}{r:Q_}(e:Qq S.T n=some r):0<aM (Kk c.Kq) n/\aM (Kk c.Kq) n<=20/\0<n.size/\n.size<=maxLen:=by
 obtain⟨A,a⟩:=Ps.1 (h.live.bP.ok.known n r e);have f:=(b.ok n A a).1.1;have d:=(b.ok n A a).2;have g:=d.1;have i:=d.2.1;unfold aM maxLen;rw[a];simp only;omega
end
theorem bi.N_{c:fD}{S:aS}{D:iy}{w:Qy}(h:bi c S D w){i:Nat}(hi:i<D.cl.length):∃g,D.ca=some ⟨g,0,none⟩/\g<w.heap.size/\w.cell? ⟨g,i*2,none⟩=some (.string D.cl[i].1)/\w.cell? ⟨g,i*2+1,none⟩=some (.int .i64 D.cl[i].2):=by
 rcases h.cau.2 with⟨_,e⟩|⟨g,m,n,f,_,j,_⟩
 ·rw[e] at hi;exact aB hi
 ·injection f with a p q;obtain⟨k,l⟩:=uO D.cl i hi;have b:=h.cau.cells (g:=g) (by rw[a];rfl) (i*2) _ k;have d:=h.cau.cells (g:=g) (by rw[a];rfl) (i*2+1) _ l;rw[PQ,PD] at b d;exact⟨g,a,aV j,b,d⟩
theorem vC{c:fD}{S:aS}{D:iy}{w:Qy}(h:bi c S D w)(n:Qw)(x:D.cl.length<=1000000):
  Calls prog 53 #[.pointer (some ⟨c.hb,0,none⟩),.string n] w fun e w'=>e= .returned (.int .i64 (oH D.cl n))/\w'=w:=by
 obtain⟨G,p⟩:=ag c.hb;have q:=h.at.2.2.2.2.2.2;have z:=h.row.lt;have r:Hid (∀i,(s:i<D.cl.length)->∃g,D.ca=some ⟨g,0,none⟩/\g<w.heap.size/\w.cell? ⟨g,i*2,none⟩=some (.string D.cl[i].1)/\w.cell? ⟨g,i*2+1,none⟩=some (.int .i64 D.cl[i].2)):=fun i s=>h.N_ s
 rw[<-p] at q z⊢;obtain⟨cl,a⟩:=ag D.cl;obtain⟨H,b⟩:=ag D.ca;obtain⟨I,t⟩:=ag D.cc;rw[<-a,<-b] at r;rw[<-a,<-b,<-t] at q;rw[<-a] at x⊢;clear h p a b t;go_enter func53,ntmps53
 go_wp2
 go_loopw [5] (fun i wr=>∃k:Nat,k<=cl.length/\i= .int .i64 (k:Int)/\Hid (oH cl n=oH (cl.drop k) n)/\wr=w) (fun i _=>cl.length-(intOf i).toNat)
 case atStart=>exact⟨0,OW _,rfl,Kz (by simp),rfl⟩
 case round=>
  obtain⟨k,J,rfl,d,rfl⟩:=hrel;by_cases f:k<cl.length
  ·obtain⟨g,A,K,B,C⟩:=r.o k f;subst A;obtain⟨y,j⟩:=ag (cl[k].1);obtain⟨E,l⟩:=ag (cl[k].2);rw[<-j] at B;rw[<-l] at C;have L:(k:Int)<(cl.length:Int):=by omega
   have v:Hid (oH (cl.drop k) n=if y=n then E else oH (cl.drop (k+1)) n):=by
    show _=_;rw[List.drop_eq_getElem_cons f,j,l]
    rfl
   clear j l;cases m:(y.toList == n.toList)
   ·go_wp2
    go_roundw
    case rel=>
     refine⟨k+1,by omega,by go_num,Kz ?_,trivial⟩;rw[d.o,v.o,Qh (fun e=>by rw[e] at m;simp at m)]
    case measure=>simp[intOf];omega
   ·go_wp2
    go_ret
    exact⟨by rw[d.o,v.o,Qg (sU m)];rfl,rfl⟩
  ·have M:¬((k:Int)<(cl.length:Int)):=by omega
   have F:Hid (oH cl n= -1):=by
    have h:=d.o;rw[List.drop_of_length_le (by omega)] at h;exact h
   clear f;go_wp2
   go_ret
   exact⟨by rw[F.o];rfl,rfl⟩
section
variable {c : fD} {S : aS} {D : iy} {w : Qy}
theorem bi.ready(h:bi c S D w)(g:dU c.Kq S.T)(b:m_ c):Calls prog 51 #[.agg #[.slice c.a c.Kq.length c.cap],.agg #[.slice D.ra c.Kj.length D.rc,.slice D.d S.T.length D.dc]] w fun e w'=>Ao w.heap.size c.Kq S.T w' e/\K_ w w':=
 AY w c.a c.cap c.Kq D.ra c.Kj.length D.rc D.d D.dc S.T (by have:=b.len;omega) (by have:=g.len;have:=b.len;omega) b.sml (fun r i _ _=>(g.good r i).act) (b.nodes.kept h.kw) h.run.runs
theorem bi.OI(h:bi c S D w)(f:dU c.Kq S.T)(b:m_ c){n:Qw}{r:Q_}(i:Qq S.T n=some r)(j:bL (Kk c.Kq) (Qq S.T) r):Calls prog 99 #[.agg #[.slice c.a c.Kq.length c.cap],.agg #[.slice D.ra c.Kj.length D.rc,.slice D.d S.T.length D.dc],.string n] w fun e w'=>ry c.Kj (doL (Kk c.Kq) S.T r) w w' e:=by
 obtain⟨k,l,e,_⟩:=h.rts 0 (by have:=b.rts;omega);have g:=h.rts.strs;have m:=f.len;have p:=b.len;rw[e] at g⊢;exact MI w c.a c.cap c.Kq k l D.rc c.Kj D.d D.dc S.T n r (by omega) (by omega) b.sml b.ok b.fits b.rts.2 f i j (b.nodes.kept h.kw) h.run.runs g
end
theorem pJ :∀(l:List (Qw×Int)) (u:QA),u∈iW l->u.oneCell'=true
 | [],u,h=>by cases h
 | c :: r,u,h=>by
  simp only[iW,PS] at h;rcases h with rfl|rfl|h
  ·rfl
  ·rfl
  ·exact pJ r u h
theorem Tryz.JN :(prog.info? 177).map (fun i=>(i.zero,i.size,i.bytes))=some (some (.agg #[.string ByteArray.empty,.int .i64 0]),2,24):=by kernel_rfl
theorem sK{c:fD}{S:aS}{D:iy}{w:Qy}{n:Qw}{j:Int}(i:nA c S D w)(X:m_ c)(hn:Rdy (Kk c.Kq) S n)(e2:¬Bz S n)(hj: -1<=j/\j<S.slots.length):
  Calls prog 50 #[.pointer (some ⟨c.hb,0,none⟩),.string n,.int .i64 j] w fun e w'=>e= .returned (.tuple #[])/\jX c (doneS (Kk c.Kq) S n j) w'/\But (fun x=>x=c.hb) w w':=by
 obtain⟨ic,e3,e4,e5,e6⟩:=aN Tryz.JN;have c3:=(i.live.done X.ok hn e2 hj).1;have c4:=su i.live.good (j:=j) hn;obtain⟨E,Y⟩:=ag (doneS (Kk c.Kq) S n j);rw[<-Y] at c3 c4⊢;have h4:∃G,Qq S.T n=some G/\bL (Kk c.Kq) (Qq S.T) G/\E.T=doL (Kk c.Kq) S.T G:=by
  obtain⟨G,Z,H⟩:=hn;refine⟨G,Z,H, ?_⟩;rw[Y];show doN (Kk c.Kq) S.T n=_;unfold doN;rw[Z]
 obtain⟨G,Z,e7,e8⟩:=h4;have c5:Hid (E.busy=S.busy/\E.slots=S.slots/\E.back=S.back):=by rw[Y];exact⟨rfl,rfl,rfl⟩
 have b3:=Kz (fun u (k:K_ w u)=>(i.mem.kept k).ready i.live.good X);have e9:=Kz (fun u (k:K_ w u)=>(i.mem.kept k).OI i.live.good X Z e7);obtain⟨g,a0⟩:=ag c.hb;have F:Hid (∀u,K_ w u->u.cell? ⟨g,0,none⟩=some (.slice c.a c.Kq.length c.cap)/\u.cell? ⟨g,1,none⟩=some (.slice D.ra c.Kj.length D.rc)/\u.cell? ⟨g,2,none⟩=some (.slice D.d S.T.length D.dc)):=fun u k=>by
  have C:=(i.mem.kept k).at;rw[a0];exact⟨C.1,C.2.1,C.2.2.1⟩
 have b4:Hid (aL w g 59 7):=by rw[a0];exact i.mem.row
 have b5:g<w.heap.size:=b4.o.lt;have⟨HI,HK,b6,h5,h6⟩:=dX i X c3 c4 e8;have⟨I,c6⟩:=aD a0 Y;rw[<-a0];clear i X c3 c4 e8 a0 Y hn e2 hj Z e7;go_enter func50,ntmps50
 go_wp2
 refine aR 9 F.o fun r s b=>?_
 refine af 0 b ?_;refine af 4 b ?_;refine ax 8 (fun K h=>?_);go_simp
 go_at_call 51
 refine (b3.o _ s).mono ?_;rintro e w1 ⟨⟨c7,c8,v,rfl,f0,f1⟩,f2⟩;have k1:=s.trans f2;have f3:=Kz f0;have f4:=Kz (df (base':=w.heap.size) f1 s.size);clear f2 f0 f1 s;dsimp only;refine h.out _ _ (fun _=>F.o _ k1) ?_;clear h K b;try simp only[Act.put,upA,upB,upC]
 refine ax 9 (fun K h=>?_);go_simp
 refine h.out _ _ (fun i=>Qi rfl i) ?_;clear h K;try simp only[Act.put,upA,upB,upC]
 refine az ?_;go_wp2
 refine jI 13 F.o (k1.trans (bB w1)) (fun b=>?_);have KE:K_ w w1.drew:=k1.trans (bB w1);have c9:=Kz (bB w1);generalize h7:w1.drew=we at b KE c9⊢;clear h7;refine af 0 b ?_;refine af 4 b ?_;refine ae 8 b ?_;refine ae 9 b ?_;refine ax 10 (fun K h=>?_);go_simp
 go_at_call 99
 refine (e9.o _ KE).mono ?_;rintro e w2 f5;obtain⟨d0,b7,d1,b8,rfl,f6,f7,k2⟩:=f5.stretch;clear f5;have⟨f8,f9,d2⟩:=bA f6 f7 k2;have J:=KE.trans k2;clear f6 f7 k2;dsimp only;refine h.out _ _ (fun _=>F.o _ J) ?_;clear h K b;try simp only[Act.put,upA,upB,upC]
 have b:=F.o _ J;refine ae 11 b ?_;refine ae 12 b ?_;obtain⟨⟨_,h8⟩,h9⟩:=(b4.o.kept J).row.at (i:=1) (by omega);obtain⟨⟨_,i0⟩,i1⟩:=(b4.o.kept J).row.at (i:=2) (by omega);have i2:=OV b5 J.size;clear b;refine ax 13 (fun K h=>?_);go_simp
 refine h.out _ _ (fun i=>Qi rfl i) ?_;clear h K;try simp only[Act.put,upA,upB,upC]
 refine az ?_;obtain⟨R,a1⟩:=ag ((w2.setCell ⟨g,1,none⟩ (.slice d0 c.Kj.length b7)).setCell ⟨g,2,none⟩ (.slice d1 (doL (Kk c.Kq) S.T G).length b8));have b9:Hid (bi c E {D with ra:=d0,rc:=b7,d:=d1,dc:=b8,lo:=we.heap.size,hi:=w2.heap.size} R):=by
  have i:=(HI.o.mem.kept KE).state (S':=E) d2.o f8.o f9.o (rc:=b7) (dc:=b8) h6.o c5.o.1 c5.o.2.1 c5.o.2.2;rw[a1,I.o];exact i
 have g0:Hid (But (fun x=>x=g) w R):=by
  rw[a1];exact But.set (S:=fun x=>x=g) (But.set (S:=fun x=>x=g) (.aj J) (p:=⟨g,1,none⟩) rfl _) (p:=⟨g,2,none⟩) rfl _
 have i3:Hid (R.ownsRow w.heap.size 9 1 (.slice c7 v.length c8) v.length (v.map Value.string)):=by
  have i:=ai f4.o (c9.o.trans d2.o);rw[a1];exact bV (bV i (p:=⟨g,1,none⟩) b5 _) (p:=⟨g,2,none⟩) b5 _
 try simp only[World.setCells]
 rw[<-a1];clear a1 h8 h9 i0 i1 i2 J f8 f9 d2 c9 F b3 e9 KE k1 b4 f4;obtain⟨L,d3⟩:∃L:iy,L= {D with ra:=d0,rc:=b7,d:=d1,dc:=b8,lo:=we.heap.size,hi:=w2.heap.size}:=⟨_,rfl⟩;rw[<-d3] at b9;have i4:=Kz (congrArg iy.cl d3);clear d3;have b3:=Kz (fun u (k:K_ R u)=>(b9.o.kept k).ready b6.o.good HK.o);have F:Hid (∀u,K_ R u->u.cell? ⟨g,0,none⟩=some (.slice c.a c.Kq.length c.cap)/\u.cell? ⟨g,1,none⟩=some (.slice L.ra c.Kj.length L.rc)/\u.cell? ⟨g,2,none⟩=some (.slice L.d E.T.length L.dc)):=fun u k=>by
  have C:=(b9.o.kept k).at;rw[I.o];exact⟨C.1,C.2.1,C.2.2.1⟩
 go_wp2
 refine aR 9 F.o fun r s b=>?_
 refine af 0 b ?_;refine af 4 b ?_;refine ax 8 (fun K h=>?_);go_simp
 go_at_call 51
 refine (b3.o _ s).mono ?_;rintro e w4 ⟨⟨i5,i6,q,rfl,g1,g2⟩,g3⟩;have k4:=s.trans g3;have g4:=Kz g1;have i7:=Kz (df (base':=R.heap.size) g2 s.size);clear g3 g1 g2 s;dsimp only;refine h.out _ _ (fun _=>F.o _ k4) ?_;clear h K b;try simp only[Act.put,upA,upB,upC]
 refine ax 9 (fun K h=>?_);go_simp
 refine h.out _ _ (fun i=>Qi rfl i) ?_;clear h K;try simp only[Act.put,upA,upB,upC]
 refine az ?_;go_wp2_with fail
 have j3:q.length<=60:=by
  have h1:=g4.o.len;have h2:=b6.o.good.len;have h3:=HK.o.len;omega
 have j4:v.length<=60:=by
  have h1:=f3.o.len;have h2:=HI.o.live.good.len;have h3:=HK.o.len;omega
 have j5:=HI.o.bud;go_loopg [8] q.length (fun gk x8 wr=>∃(l:Nat) (f:iy),x8= .int .i64 (l:Int)/\l+gk=q.length/\Hid (bi c E f wr)/\Hid (nO v q n j D.cl l f.cl)/\Hid (But (fun x=>x=g) w wr)/\Hid (wr.ownsRow w.heap.size 9 1 (.slice c7 v.length c8) v.length (v.map Value.string))/\Hid (wr.ownsRow w.heap.size 9 1 (.slice i5 q.length i6) q.length (q.map Value.string)))
 case atStart=>exact⟨0,L,rfl,by omega,Kz (b9.o.kept k4),Kz (by rw[i4.o];exact .start),Kz (g0.o.trans (.aj k4)),Kz (ai i3.o k4),Kz (df i7.o g0.o.size)⟩
 case round=>
  obtain⟨l,f,rfl,j6,B,U,a2,V,W⟩:=hrel;by_cases hi:l<q.length
  ·obtain⟨_,_,ey,d4⟩:=bM W.o;simp only[PO,true_and] at ey;rw[<-ey.1] at d4;clear ey;obtain⟨yb,yo,i8,g5,g6⟩:=d4 l hi;subst i8;obtain⟨y,hy⟩:=ag (q[l]);have HY:Hid (q[l]=y):=hy.symm;have c0:wr.cell? ⟨yb,yo+l,none⟩=some (.string y):=by rw[g6,hy];simp[List.getD,hi]
   have j7:(l:Int)<(q.length:Int):=by omega
   have q6:=B.o.at.2.2.2.2.2.2;rw[<-I.o] at q6;have c1:g<wr.heap.size:=OV b5 a2.o.size;have j8:f.cl.length<=100000:=by have:=U.o.1;omega
   obtain⟨_,_,ew,c2⟩:=bM V.o;simp only[PO,true_and] at ew;rw[<-ew.1] at c2;clear ew;clear hy d4 g6;cases d5:(y.toList == n.toList)
   ·have d6:=Iz wr c7 c8 v y (by omega) c2;clear c2;go_wp2_with fail
    refine d6.mono ?_;rintro e w5 ⟨d7,g7⟩;rw[g7];clear g7 w5;rcases d7.cases with⟨rfl,g8⟩|⟨rfl,g9⟩
    ·have i9:Hid (¬(q[l]=n\/q[l]∉v)):=by
      rw[HY.o];rintro (e|e)
      ·rw[e] at d5;simp at d5
      ·exact e g8
     clear g8 d6 d7;go_wp2
     go_roundg (gk-1)
     case measure=>omega
     case rel=>exact⟨l+1,f,by go_num,by omega,B,Kz (U.o.no hi i9.o),a2,V,W⟩
    ·have d8:Hid (q[l]=n\/q[l]∉v):= .inr (by rw[HY.o];exact g9);clear g9 d6 d7;go_wp2_with fail
     have z:Hid (∀u,K_ wr u->u.cell? ⟨g,6,none⟩=some (.slice f.ca f.cl.length f.cc)/\u.cell? ⟨yb,yo+l,none⟩=some (.string y)):=fun u ku=>⟨(ku.cell c1).trans q6,(ku.cell g5).trans c0⟩
     refine aR 15 z.o fun r s b=>?_
     refine af 0 b ?_;refine ae 4 b ?_;refine ae 5 b ?_;refine ae 6 b ?_;refine af 8 b ?_;refine ax 7 (fun K h=>?_);go_simp
     have A:K_ wr (r.alloc (.cells #[.string y,.int .i64 j] 177)):=s.alloc _;refine h.out _ _ (fun _=>z.o _ A) ?_;clear h K b;try simp only[Act.put,upA,upB,upC]
     have b:=z.o _ A;have M:Hid ((r.alloc (.cells #[.string y,.int .i64 j] 177)).ownsRow wr.heap.size 177 2 (.slice (some ⟨r.heap.size,0,none⟩) 1 1) 1 [.string y,.int .i64 j]):=⟨rfl,.inr ⟨r.heap.size,1,_,rfl,s.size,heap_alloc_new r _,OU _,by unfold maxLen;omega,rfl,rfl⟩⟩;have a3:=Kz (ai B.o.cau A);have a4:Hid (wr.heap.size<=(r.alloc (.cells #[.string y,.int .i64 j] 177)).heap.size):=A.size;have a5:Hid (1+f.cl.length<=maxLen):=by show _<=_;unfold maxLen;omega
     have a6:Hid ((1+f.cl.length)*24<=140737488355328):=by show _<=_;omega
     refine ax 12 (fun K h=>?_);refine jh (.tmp 68) (.tmp 72) 57 rfl wr.heap.size 177 ic (.agg #[.string ByteArray.empty,.int .i64 0]) 2 24 underlying57 e3 e4 e5 e6 rfl (by decide) (.slice (some ⟨r.heap.size,0,none⟩) 1 1) 1 [.string y,.int .i64 j] rfl M.o c.w0.heap.size (.slice f.ca f.cl.length f.cc) f.cl.length (iW f.cl) rfl a3.o (pJ f.cl) a5.o a6.o a4.o ?_;intro v6 N O a7 _;have t:K_ wr N:=aC A (OU _) M.o a7;obtain⟨P,Q,rfl⟩:=aG O;have a8:=Kz O;clear O a7;refine h.out _ _ (fun _=>z.o _ t) ?_;clear h K b;try simp only[Act.put,upA,upB,upC]
     have b:=z.o _ t;refine ae 13 b ?_;refine ae 14 b ?_;obtain⟨⟨_,a9⟩,b0⟩:=(B.o.row.kept t).row.at (i:=6) (by omega);rw[<-I.o] at a9 b0;have d9:=OV c1 t.size;clear b;refine ax 15 (fun K h=>?_);go_simp
     refine h.out _ _ (fun i=>Qi rfl i) ?_;clear h K;try simp only[Act.put,upA,upB,upC]
     refine az ?_;have b1:=Kz (B.o.Mj t (ca:=P) (cc:=Q) (cl:=(y,j) :: f.cl) (by rw[PP,Nat.add_comm];exact df a8.o B.o.kw.size));have e0:Hid (But (fun x=>x=g) w (N.setCell ⟨g,6,none⟩ (.slice P (1+f.cl.length) Q))):=(a2.o.trans (.aj t)).set (p:=⟨g,6,none⟩) rfl _;have b2:Hid (But (fun x=>x=g) wr (N.setCell ⟨g,6,none⟩ (.slice P (1+f.cl.length) Q))):=But.set (S:=fun x=>x=g) (But.aj t) (p:=⟨g,6,none⟩) rfl _;rw[<-I.o,PP,Nat.add_comm f.cl.length 1] at b1;clear a9 b0 d9 z A s M a3 a5 a6 a4 a8 q6 c0;go_wp2
     go_roundg (gk-1)
     case measure=>omega
     case rel=>exact⟨l+1,_,by go_num,by omega,b1,Kz (by have i:=U.o.yes (by omega) d8.o;rw[HY.o] at i;exact i),e0,b2.o.owns V.o (fun x e e1=>by have:=(V.o.lt x e).1;omega),b2.o.owns W.o (fun x e e1=>by have:=(W.o.lt x e).1;omega)⟩
   ·have d8:Hid (q[l]=n\/q[l]∉v):= .inl (by rw[HY.o];exact sU d5);clear c2;go_wp2_with fail
    have z:Hid (∀u,K_ wr u->u.cell? ⟨g,6,none⟩=some (.slice f.ca f.cl.length f.cc)/\u.cell? ⟨yb,yo+l,none⟩=some (.string y)):=fun u ku=>⟨(ku.cell c1).trans q6,(ku.cell g5).trans c0⟩
    refine aR 15 z.o fun r s b=>?_
    refine af 0 b ?_;refine ae 4 b ?_;refine ae 5 b ?_;refine ae 6 b ?_;refine af 8 b ?_;refine ax 7 (fun K h=>?_);go_simp
    have A:K_ wr (r.alloc (.cells #[.string y,.int .i64 j] 177)):=s.alloc _;refine h.out _ _ (fun _=>z.o _ A) ?_;clear h K b;try simp only[Act.put,upA,upB,upC]
    have b:=z.o _ A;have M:Hid ((r.alloc (.cells #[.string y,.int .i64 j] 177)).ownsRow wr.heap.size 177 2 (.slice (some ⟨r.heap.size,0,none⟩) 1 1) 1 [.string y,.int .i64 j]):=⟨rfl,.inr ⟨r.heap.size,1,_,rfl,s.size,heap_alloc_new r _,OU _,by unfold maxLen;omega,rfl,rfl⟩⟩;have a3:=Kz (ai B.o.cau A);have a4:Hid (wr.heap.size<=(r.alloc (.cells #[.string y,.int .i64 j] 177)).heap.size):=A.size;have a5:Hid (1+f.cl.length<=maxLen):=by show _<=_;unfold maxLen;omega
    have a6:Hid ((1+f.cl.length)*24<=140737488355328):=by show _<=_;omega
    refine ax 12 (fun K h=>?_);refine jh (.tmp 68) (.tmp 72) 57 rfl wr.heap.size 177 ic (.agg #[.string ByteArray.empty,.int .i64 0]) 2 24 underlying57 e3 e4 e5 e6 rfl (by decide) (.slice (some ⟨r.heap.size,0,none⟩) 1 1) 1 [.string y,.int .i64 j] rfl M.o c.w0.heap.size (.slice f.ca f.cl.length f.cc) f.cl.length (iW f.cl) rfl a3.o (pJ f.cl) a5.o a6.o a4.o ?_;intro v6 N O a7 _;have t:K_ wr N:=aC A (OU _) M.o a7;obtain⟨P,Q,rfl⟩:=aG O;have a8:=Kz O;clear O a7;refine h.out _ _ (fun _=>z.o _ t) ?_;clear h K b;try simp only[Act.put,upA,upB,upC]
    have b:=z.o _ t;refine ae 13 b ?_;refine ae 14 b ?_;obtain⟨⟨_,a9⟩,b0⟩:=(B.o.row.kept t).row.at (i:=6) (by omega);rw[<-I.o] at a9 b0;have d9:=OV c1 t.size;clear b;refine ax 15 (fun K h=>?_);go_simp
    refine h.out _ _ (fun i=>Qi rfl i) ?_;clear h K;try simp only[Act.put,upA,upB,upC]
    refine az ?_;have b1:=Kz (B.o.Mj t (ca:=P) (cc:=Q) (cl:=(y,j) :: f.cl) (by rw[PP,Nat.add_comm];exact df a8.o B.o.kw.size));have e0:Hid (But (fun x=>x=g) w (N.setCell ⟨g,6,none⟩ (.slice P (1+f.cl.length) Q))):=(a2.o.trans (.aj t)).set (p:=⟨g,6,none⟩) rfl _;have b2:Hid (But (fun x=>x=g) wr (N.setCell ⟨g,6,none⟩ (.slice P (1+f.cl.length) Q))):=But.set (S:=fun x=>x=g) (But.aj t) (p:=⟨g,6,none⟩) rfl _;rw[<-I.o,PP,Nat.add_comm f.cl.length 1] at b1;clear a9 b0 d9 z A s M a3 a5 a6 a4 a8 q6 c0;go_wp2
    go_roundg (gk-1)
    case measure=>omega
    case rel=>exact⟨l+1,_,by go_num,by omega,b1,Kz (by have i:=U.o.yes (by omega) d8.o;rw[HY.o] at i;exact i),e0,b2.o.owns V.o (fun x e e1=>by have:=(V.o.lt x e).1;omega),b2.o.owns W.o (fun x e e1=>by have:=(W.o.lt x e).1;omega)⟩
  ·have j9:¬((l:Int)<(q.length:Int)):=by omega
   have j0:l=q.length:=by omega
   go_wp2
   go_end0
   refine⟨rfl,⟨f,B.o,b6.o,fun m C=>?_, ?_⟩,a2.o⟩
   ·have h1:=U.o.2 m;rw[j0,PE] at h1;have h2:m∈q:=(g4.o.ready b6.o.bP.ok.asc m).2 C;have h3:=f3.o.ready HI.o.live.bP.ok.asc m;rw[h1];show _=E.cause m;have j1:bD (Kk c.Kq) (Qq (doN (Kk c.Kq) S.T n)) m:=by
     have h0:=C;rw[c6.o] at h0;exact h0
    by_cases H:m=n\/m∉v
    ·rw[if_pos ⟨h2,H⟩,c6.o];unfold doneS;dsimp only;rw[if_pos ⟨j1,H.imp id (fun x y=>x (h3.2 y))⟩]
    ·rw[if_neg (fun x=>H x.2),c6.o];unfold doneS;dsimp only;rw[if_neg (fun x=>H (x.2.imp id (fun y j2=>y (h3.1 j2))))];exact HI.o.cau m (h3.1 (by by_cases e:m∈v;exact e;exact absurd (.inr e) H))
   ·have h1:=U.o.1;have h2:=h5.o;omega
def bv(w w':Qy):Prop:=w.heap.size<=w'.heap.size/\∀b,bZ w b 33->w'.heap[b]? =w.heap[b]?
variable {w : Qy}
theorem bv.trans{u v:Qy}(h:bv w u)(g:bv u v):bv w v:=⟨OX h.1 g.1,fun b a=>by
 have e:=h.2 b a;obtain⟨c,d,f⟩:=a;exact (g.2 b ⟨c,d,e.trans f⟩).trans e⟩
theorem bv.refl(w:Qy):bv w w:=⟨OU _,fun _ _=>rfl⟩
theorem bv.CB{P:Nat->Prop}{u:Qy}(h:But P w u)(d:∀b,bZ w b 33->¬P b):bv w u:=⟨h.size,fun b c=>h.block b (by obtain⟨_,_,e⟩:=c;exact aV e) (d b c)⟩
theorem bv.aj{u:Qy}(h:K_ w u):bv w u:= .CB (P:=fun _=>False) (.aj h) (fun _ _=>id)
variable {S : aS} {c : fD}
theorem bi.Ir{D:iy}{u:Qy}(h:bi c S D w)(k:But (fun x=>x=c.hb) w u):bv w u:= .CB k (fun _ b=>aA b h.row.type (by decide))
theorem IB{l:List Q_}(h:dB l){k j:Nat}(b:k<l.length)(c:j<l.length)(e:(l.getD k Q_.zero).name= (l.getD j Q_.zero).name):k=j:=by
 have d:=Pg.1 h;simp only[List.getD,OZ b,OZ c,Ql] at e;rcases Qf k j with a|a|a
 ·have:=d k j b c a;rw[e] at this;exact Qi this (aI _)
 ·exact a
 ·have:=d j k c b a;rw[e] at this;exact Qi this (aI _)
theorem bi.OM{D:iy}(h:bi c S D w)(i:dU c.Kq S.T)(p:m_ c){n:Qw}{r:Q_}(j:Qq S.T n=some r):∃(k a b:Nat),k<S.T.length/\D.d=some ⟨a,b,none⟩/\a<w.heap.size/\w.cell? ⟨a,b+k*7+5,none⟩=some (.int .i64 r.Zq)/\
  ∀u,K_ w u->Calls prog 52 #[.agg #[.slice D.ra c.Kj.length D.rc,.slice D.d S.T.length D.dc],.string n] u fun e w'=>e= .returned (.int .i64 (k:Int))/\K_ u w':=by
 obtain⟨q,s⟩:=bN j;obtain⟨k,f,e⟩:=Ph q;have l:S.T.getD k Q_.zero=r:=by simp only[List.getD,OZ f,Ql,e]
 obtain⟨a,b,B,C,t,_,v,m,_⟩:=h.run k f;rw[l] at m;refine⟨k,a,b,f,t,v,m 5 _ rfl,fun u x=>?_⟩;refine (jC u D.ra c.Kj.length D.rc D.d D.dc S.T n (by have:=i.len;have:=p.len;omega) ((h.kept x).run.runs)).mono ?_;rintro e w' ⟨⟨E,rfl,y⟩,z⟩;rcases y with⟨F,g,rfl,_,A⟩ | ⟨_,g⟩
 ·exact⟨by rw[IB i.asc g f (by rw[A,l,s])],z⟩
 ·rw[j] at g;cases g
theorem zg(hA:jX c S w)(hk:m_ c):
  Calls prog 23 #[.pointer (some ⟨c.hb,0,none⟩)] w fun e w'=>e= .returned (.tuple #[])/\∃S',lS (Kk c.Kq) S S'/\jX c S' w'/\bv w w':=by
 obtain⟨r,Z⟩:=ag c.hb;have⟨B,I,HA⟩:=bA Z hk hA;rw[<-Z];clear hA hk Z;go_enter func23,ntmps23
 go_wp2
 go_loopg [2] (mE c.Kq S.T+1) (fun gg x2 wr=>∃(b:Bool) (f:aS),x2= .bool b/\Hid (gg=mE c.Kq f.T+ (if b=true then 1 else 0))/\Hid (jX c f wr)/\Hid (∀C,lS (Kk c.Kq) f C->lS (Kk c.Kq) S C)/\Hid (b=false->∀D,¬Sp (Kk c.Kq) f D)/\Hid (bv w wr))
 case atStart=>exact⟨true,S,rfl,rfl,HA,fun _ h=>h,(fun h=>by cases h),.refl w⟩
 case round=>
  obtain⟨b,f,rfl,a0,a1,N,O,a2⟩:=hrel;cases b
  ·go_wp2
   go_end0
   exact⟨rfl,f,N.o _ (.stop (O.o trivial)),a1.o,a2.o⟩
  clear O;obtain⟨v,J⟩:=a1.o;have E:=Kz J;have b5:=Kz (fun u (F:K_ wr u)=>(J.mem.kept F).ready J.live.good I.o);have a3:Hid (∀u,K_ wr u->u.cell? ⟨r,0,none⟩=some (.slice c.a c.Kq.length c.cap)/\u.cell? ⟨r,1,none⟩=some (.slice v.ra c.Kj.length v.rc)/\u.cell? ⟨r,2,none⟩=some (.slice v.d f.T.length v.dc)):=fun u F=>by
   have k:=(J.mem.kept F).at;rw[B.o];exact⟨k.1,k.2.1,k.2.2.1⟩
  clear J a1;go_wp2
  refine aR 9 a3.o fun wd n g=>?_
  refine af 0 g ?_;refine af 4 g ?_;refine ax 8 (fun K l=>?_);go_simp
  go_at_call 51
  refine (b5.o _ n).mono ?_;rintro e w1 ⟨⟨e8,e9,m,rfl,b6,b7⟩,b8⟩;have k1:=n.trans b8;have P:=Kz b6;have d3:=Kz (df (base':=wr.heap.size) b7 n.size);clear b8 b6 b7 n;dsimp only;refine l.out _ _ (fun _=>a3.o _ k1) ?_;clear l K g;try simp only[Act.put,upA,upB,upC]
  refine ax 9 (fun K l=>?_);go_simp
  refine l.out _ _ (fun h=>Qi rfl h) ?_;clear l K;try simp only[Act.put,upA,upB,upC]
  refine az ?_;have f0:m.length<=60:=by
   have L:=P.o.len;have h2:=E.o.live.good.len;have h3:=I.o.len;omega
  have a4:=Kz (fun s=>P.o.ready E.o.live.bP.ok.asc s);have d4:=Kz (P.o.asc E.o.live.bP.ok.asc);clear b5 a3 P;go_wp2
  go_loopg [2,4] (m.length+1) (fun gk x2 x4 x=>∃(b:Bool) (i:Nat),x2= .bool b/\x4= .int .i64 (i:Int)/\i<=m.length/\((b=false/\i+gk=m.length+1/\Hid (K_ w1 x)/\Hid (∀s∈m.take i,¬Sp (Kk c.Kq) f s))\/(b=true/\Hid (∃t,nH (Sp (Kk c.Kq) f) aH t/\jX c (doneS (Kk c.Kq) f t (f.cause t)) x)/\Hid (bv w x))))
  case atStart=>exact⟨false,0,rfl,rfl,OW _,.inl ⟨rfl,by omega,K_.refl _,fun s k=>by simp at k⟩⟩
  case round=>
   obtain⟨b,i,rfl,rfl,f1,d5⟩:=hrel;obtain⟨x,rfl⟩:=ag wr;rcases d5 with⟨rfl,f2,a5,a6⟩|⟨rfl,M,b9⟩;rotate_left
   ·obtain⟨t,a7,c0⟩:=M.o;have⟨Q,c1⟩:=aD a7 c0;have c2:=Kz (su E.o.live.good (j:=f.cause t) a7.1.ready);clear a7 c0 M;by_cases G:(i:Int)<(m.length:Int)
    ·go_wp2
     go_roundg (mE c.Kq (doneS (Kk c.Kq) f t (f.cause t)).T+1)
     case measure=>have h:=a0.o;have h2:=c2.o;simp only[if_true] at h;omega
     case rel=>exact⟨true,_,rfl,rfl,c1,Kz (fun C h=>N.o C (.go Q.o h)),Kz (fun h=>by cases h),b9⟩
    ·go_wp2
     go_roundg (mE c.Kq (doneS (Kk c.Kq) f t (f.cause t)).T+1)
     case measure=>have h:=a0.o;have h2:=c2.o;simp only[if_true] at h;omega
     case rel=>exact⟨true,_,rfl,rfl,c1,Kz (fun C h=>N.o C (.go Q.o h)),Kz (fun h=>by cases h),b9⟩
   have R:=Kz (k1.trans a5.o);by_cases G:i<m.length;rotate_left
   ·have f3:¬((i:Int)<(m.length:Int)):=by omega
    have d6:Hid (∀D,¬Sp (Kk c.Kq) f D):=fun D hn=>a6.o D (by rw[show i=m.length by omega,PE];exact (a4.o D).2 hn.ready) hn
    go_wp2
    go_roundg (mE c.Kq f.T)
    case measure=>have h:=a0.o;simp only[if_true] at h;omega
    case rel=>exact⟨false,f,rfl,rfl,Kz ⟨v,E.o.kept R.o⟩,N,Kz (fun _=>d6.o),Kz (a2.o.trans (.aj R.o))⟩
   have f4:(i:Int)<(m.length:Int):=by omega
   obtain⟨_,_,ey,a8⟩:=bM (ai d3.o a5.o);simp only[PO,true_and] at ey;rw[<-ey.1] at a8;clear ey;obtain⟨yb,yo,d7,d8,c3⟩:=a8 i G;subst d7;obtain⟨y,U⟩:=ag (m[i]);have HY:Hid (m[i]=y):=U.symm;have c4:x.cell? ⟨yb,yo+i,none⟩=some (.string y):=by rw[c3,U];simp[List.getD,G]
   have a9:Rdy (Kk c.Kq) f y:=(a4.o y).1 (by rw[U];exact Pf G);have z:=E.o.kept R.o;obtain⟨c5,V,c6⟩:=id a9;obtain⟨F,rb,ro,f5,hd,d9,b0,b1⟩:=z.mem.OM z.live.good I.o V;obtain⟨vs,b2⟩:=ag c5.Zq;rw[<-b2] at b0;have k:=z.mem.at;rw[hd] at k b1;rw[<-B.o] at k;have c7:r<x.heap.size:=by rw[B.o];exact z.mem.row.lt
   have W:Hid (∀u,K_ x u->u.cell? ⟨r,1,none⟩=some (.slice v.ra c.Kj.length v.rc)/\u.cell? ⟨r,2,none⟩=some (.slice (some ⟨rb,ro,none⟩) f.T.length v.dc)/\u.cell? ⟨yb,yo+i,none⟩=some (.string y)/\u.cell? ⟨rb,ro+F*7+5,none⟩=some (.int .i64 vs)):=fun u p=>⟨(p.cell c7).trans k.2.1,(p.cell c7).trans k.2.2.1,(p.cell d8).trans c4,(p.cell d9).trans b0⟩
   have⟨e0,e1,c8⟩:=bA b1 z a9;have b3:Hid (Sp (Kk c.Kq) f y↔vs=20):=by
    show _↔_;rw[b2];constructor
    ·rintro⟨f6,L,_,h3⟩;rw[V] at L;cases L;exact h3
    ·exact fun e=>⟨c5,V,c6,e⟩
   have f7:f.T.length<=60:=z.len I.o;have f8:(F:Int)<(f.T.length:Int):=by omega
   clear U a8 c3 b1 z a9 V c6 b0 b2 k c4 hd;go_wp2
   refine aR 17 W.o fun wd n g=>?_
   refine af 0 g ?_;refine af 4 g ?_;refine af 8 g ?_;refine ae 12 g ?_;refine ax 13 (fun K l=>?_);go_simp
   go_at_call 52
   refine (e0.o _ n).mono ?_;rintro e X ⟨rfl,k5⟩;have H:=n.trans k5;clear k5 n;dsimp only;refine l.out _ _ (fun _=>W.o _ H) ?_;clear l K g;try simp only[Act.put,upA,upB,upC]
   have g:=W.o _ H;refine ae 14 g ?_;refine ae 15 g ?_;refine ae 16 g ?_;refine ax 17 (fun K l=>?_);go_simp
   refine l.out _ _ (fun h=>Qi rfl h) ?_;clear l K;try simp only[Act.put,upA,upB,upC]
   refine az ?_;cases b4:(vs == 20)
   ·have O:Hid (¬Sp (Kk c.Kq) f y):=fun h=>by
     have:=b3.o.1 h;rw[this] at b4;simp at b4
    go_wp2
    go_roundg (gk-1)
    case measure=>omega
    case rel=>
     refine⟨false,i+1,rfl,by go_num,by omega,.inl ⟨rfl,by omega,Kz (a5.o.trans H),Kz (fun s k=>?_)⟩⟩;rw[Pb G,HY.o] at k;rcases Pe.1 k with h | h
     ·exact a6.o s h
     ·rw[Pd.1 h];exact O.o
   ·have c9:Hid (Sp (Kk c.Kq) f y):=b3.o.2 (by simpa using b4);have Q:Hid (nH (Sp (Kk c.Kq) f) aH y):=by
     refine⟨c9.o,fun s k e3=>?_⟩;have L:=(a4.o s).2 k.ready;obtain⟨q,hq,e⟩:=Ph L;have hp:=Pg.1 d4.o;rcases Qf q i with Y | Y | Y
     ·refine Qi k (a6.o s ?_);rw[<-e];have:q<(m.take i).length:=by rw[Pt];omega
      have e2:(m.take i)[q]=m[q]:=PI;rw[<-e2];exact Pf this
     ·subst Y;exact Qi (e.symm.trans HY.o) e3
     ·have:=hp i q G hq Y;rw[HY.o,e] at this;exact this
    have A:=Kz (e1.o.kept H);have e4:Hid (∀u,K_ X u->Calls prog 53 #[.pointer (some ⟨r,0,none⟩),.string y] u fun e w'=>e= .returned (.int .i64 (f.cause y))/\w'=u):=fun u p=>by
     have h:=vC (A.o.kept p).mem y (by have:=A.o.bud;omega);rw[A.o.cau y c8.o,<-B.o] at h;exact h
    have M:=Kz (fun u (p:K_ X u)=>sK (A.o.kept p) I.o c8.o (fun r=>A.o.live.nsp y r c9.o) (A.o.live.bP.iV y));rw[<-B.o] at M;have d0:Hid (∀u,K_ X u->u.cell? ⟨yb,yo+i,none⟩=some (.string y)):=fun u p=>(W.o u (H.trans p)).2.2.1
    have e5:Hid (bv w X):=a2.o.trans (.aj (R.o.trans H));clear g b3;go_wp2
    refine aR 11 d0.o fun wd n g=>?_
    refine af 0 g ?_;refine af 4 g ?_;refine ae 8 g ?_;refine ae 9 g ?_;refine ax 10 (fun K l=>?_);go_simp
    go_at_call 53
    refine (e4.o _ n).mono ?_;rintro e w6 ⟨rfl,rfl⟩;dsimp only;refine l.out _ _ (fun _=>d0.o _ n) ?_;clear l K g;try simp only[Act.put,upA,upB,upC]
    refine ax 11 (fun K l=>?_);go_simp
    go_at_call 50
    refine (M.o _ n).mono ?_;rintro e w7 ⟨rfl,d1,d2⟩;have e6:=Kz d1;have e7:=Kz ((But.aj n).trans d2);clear d1 d2 n;dsimp only;refine l.out _ _ (fun h=>absurd rfl h) ?_;clear l K;try simp only[Act.put,upA,upB,upC]
    refine az ?_;go_wp2
    go_roundg 0
    case measure=>omega
    case rel=>exact⟨true,i+1,rfl,by go_num,by omega,.inr ⟨rfl,Kz ⟨y,Q.o,e6.o⟩,Kz (e5.o.trans (A.o.mem.Ir (by rw[<-B.o];exact e7.o)))⟩⟩
theorem bi.nodeAt{D:iy}(l:bi c S D w)(d:m_ c){n:Qw}(m:(Kk c.Kq n).isSome=true):∃(k nb no:Nat),k<c.Kq.length/\c.a=some ⟨nb,no,none⟩/\nb<c.w0.heap.size/\w.cell? ⟨nb,no+k*3+1,none⟩=some (.int .i64 (aM (Kk c.Kq) n))/\
  ∀u,K_ c.w0 u->Calls prog 55 #[.agg #[.slice c.a c.Kq.length c.cap],.string n] u fun e w'=>e= .returned (.int .i64 (k:Int))/\K_ u w':=by
 obtain⟨B,f⟩:=Ps.1 m;obtain⟨k,h,p,q,rfl⟩:=gm f;obtain⟨nb,no,C,r,i,s,E,F,rfl,_⟩:=d.nodes k h;refine⟨k,nb,no,h,r,i, ?_,fun u t=>?_⟩
 ·have v:=(l.kw.cell (o:=no+k*3+1) i).trans (s 1 _ rfl);unfold aM;rw[f];exact v
 ·refine (gp u c.a c.cap c.Kq n (by have:=d.len;omega) (d.nodes.kept t)).mono ?_;rintro e w' ⟨⟨G,rfl,x⟩,y⟩;rcases x with⟨j,g,rfl,_,z,A⟩|⟨_,g⟩
  ·refine⟨?_,y⟩;rcases Qf k j with b|b|b
   ·exact Qi p (A k b)
   ·rw[b]
   ·exact Qi z (q j b)
  ·rw[f] at g;cases g
def Ou(P:Qw->Prop)(e:Ending):Prop:=∃bs,e= .returned (.string bs)/\P bs
def mK(W:aZ)(S:aS)(l:List Qw)(bs:Qw)(co:Int):Prop:=
 (bs= ⟨#[]⟩/\co=0/\∀m∈l,¬Of W S m)\/(bs∈l/\Of W S bs/\co=aM W bs/\∀m∈l,Of W S m->m≠bs->qH W bs m)
section
variable {W : aZ} {S : aS} {l : List Qw} {bs y : Qw} {co : Int}
theorem mK.no(h:mK W S l bs co)(f:¬Of W S y):mK W S (l++ [y]) bs co:=by
 rcases h with⟨a,b,c⟩|⟨a,b,c,i⟩
 ·refine .inl ⟨a,b,fun m d=>?_⟩;rcases Pe.1 d with g | g
  ·exact c m g
  ·rw[Pd.1 g];exact f
 ·refine .inr ⟨Pe.2 (.inl a),b,c,fun m d e j=>?_⟩;rcases Pe.1 d with g | g
  ·exact i m g e j
  ·rw[Pd.1 g] at e;exact Qi e f
theorem mK.yes(h:mK W S l bs co)(c:Of W S y)(d:co<aM W y):mK W S (l++ [y]) y (aM W y):=by
 refine .inr ⟨Pe.2 (.inr (Pd.2 rfl)),c,rfl,fun m f b i=>.inl ?_⟩;rcases Pe.1 f with g | g
 ·rcases h with⟨j,k,a⟩|⟨j,k,a,n⟩
  ·exact Qi b (a m g)
  ·by_cases e:m=bs
   ·rw[e,<-a];exact d
   ·rcases n m g b e with x | ⟨x,_⟩ <;> omega
 ·exact Qi (Pd.1 g) i
theorem mK.less(h:mK W S l bs co)(n:¬co<aM W y)(p:0<aM W y)(d:∀m∈l,aH m y):mK W S (l++ [y]) bs co:=by
 rcases h with⟨a,b,c⟩|⟨a,b,c,f⟩
 ·omega
 ·refine .inr ⟨Pe.2 (.inl a),b,c,fun m i j k=>?_⟩;rcases Pe.1 i with g | g
  ·exact f m g j k
  ·rw[Pd.1 g];by_cases e:aM W y<aM W bs
   ·exact .inl e
   ·exact .inr ⟨by omega,d bs a⟩
end
theorem xZ{D:iy}(h:nA c S D w)(U:m_ c):
  Calls prog 54 #[.pointer (some ⟨c.hb,0,none⟩)] w fun e w'=>Ou (fun m=>(m= ⟨#[]⟩/\∀n,¬Of (Kk c.Kq) S n)\/(0<m.size/\nH (Of (Kk c.Kq) S) (qH (Kk c.Kq)) m)) e/\K_ w w':=by
 obtain⟨F,V⟩:=ag c.hb;obtain⟨b7,b8⟩:=ag c.bsb;obtain⟨G,a2⟩:=ag c.wk;have⟨a3,a4,W⟩:=bA V b8 a2;have f5:G<=60:=by rw[a2];exact U.wk.2
 have⟨L,v⟩:=aD U h;have b9:=Kz (fun u (C:K_ w u)=>(h.mem.kept C).ready h.live.good U);have a5:Hid (∀u,K_ w u->u.cell? ⟨F,0,none⟩=some (.slice c.a c.Kq.length c.cap)/\u.cell? ⟨F,1,none⟩=some (.slice D.ra c.Kj.length D.rc)/\u.cell? ⟨F,2,none⟩=some (.slice D.d S.T.length D.dc)):=fun u C=>by
  have r:=(h.mem.kept C).at;rw[V];exact⟨r.1,r.2.1,r.2.2.1⟩
 rw[<-V];clear h U V b8 a2;go_enter func54,ntmps54
 go_wp2
 refine aR 9 a5.o fun wd x g=>?_
 refine af 0 g ?_;refine af 4 g ?_;refine ax 8 (fun K l=>?_);go_simp
 go_at_call 51
 refine (b9.o _ x).mono ?_;rintro e w1 ⟨⟨f6,f7,j,rfl,c0,c1⟩,c2⟩;have M:=x.trans c2;have X:=Kz c0;have d5:=Kz (df (base':=w.heap.size) c1 x.size);clear c2 c0 c1 x;dsimp only;refine l.out _ _ (fun _=>a5.o _ M) ?_;clear l K g;try simp only[Act.put,upA,upB,upC]
 refine ax 9 (fun K l=>?_);go_simp
 refine l.out _ _ (fun h=>Qi rfl h) ?_;clear l K;try simp only[Act.put,upA,upB,upC]
 refine az ?_;have a6:=Kz (fun A=>X.o.ready v.o.live.bP.ok.asc A);have d6:=Kz (X.o.asc v.o.live.bP.ok.asc);have f8:j.length<=60:=by
  have s:=X.o.len;have f:=v.o.live.good.len;have H:=L.o.len;omega
 clear b9 a5 X;go_wp2
 go_loopg [3,4,6] j.length (fun gk x3 x4 x6 wr=>∃(i:Nat) (m:Qw) (I:Int),x3= .string m/\x4= .int .i64 I/\x6= .int .i64 (i:Int)/\i+gk=j.length/\Hid (K_ w1 wr)/\Hid (mK (Kk c.Kq) S (j.take i) m I))
 case atStart=>exact⟨0,⟨#[]⟩,0,rfl,rfl,rfl,by omega,K_.refl _,.inl ⟨rfl,rfl,fun A r=>by simp at r⟩⟩
 case round=>
  obtain⟨i,m,I,rfl,rfl,rfl,f9,B,Y⟩:=hrel;by_cases E:i<j.length;rotate_left
  ·have g0:¬((i:Int)<(j.length:Int)):=by omega
   go_wp2
   go_ret
   refine⟨⟨m,rfl, ?_⟩,M.trans B.o⟩;have hB:=Y.o;rw[show i=j.length by omega,PE] at hB;rcases hB with⟨s,f,H⟩|⟨s,f,H,h4⟩
   ·exact .inl ⟨s,fun n hn=>H n ((a6.o n).2 hn.1) hn⟩
   ·obtain⟨c3,N,_⟩:=f.1;exact .inr ⟨(v.o.cost L.o N).2.2.1,f,fun A r d7=>h4 A ((a6.o A).2 r.1) r d7⟩
  have g1:(i:Int)<(j.length:Int):=by omega
  obtain⟨_,_,ey,a7⟩:=bM (ai d5.o B.o);simp only[PO,true_and] at ey;rw[<-ey.1] at a7;clear ey;obtain⟨Z,yo,d8,c4,c5⟩:=a7 i E;subst d8;obtain⟨y,hy⟩:=ag (j[i]);have HY:Hid (j[i]=y):=hy.symm;have c6:wr.cell? ⟨Z,yo+i,none⟩=some (.string y):=by rw[c5,hy];simp[List.getD,E]
  have a8:Rdy (Kk c.Kq) S y:=(a6.o y).1 (by rw[hy];exact Pf E);obtain⟨c3,N,d9⟩:=id a8;have c7:=Kz (v.o.cost L.o N);obtain⟨C,J,no,c8,ha,c9,d0,a9⟩:=(v.o.kept (M.trans B.o)).mem.nodeAt L.o (v.o.live.bP.ok.known y c3 N);have e0:Hid (c.a=some ⟨J,no,none⟩):=ha;rw[ha] at a9;have⟨e1,e2,e3,d1,e4⟩:=dX d0 a9 c8 c9 c6;have e5:=Kz a8;obtain⟨wo,rfl⟩:=ag wr;clear hy a7 c5 a9 a8 N d9 d0 ha c6 c8 c9;go_wp2
  go_loopg [7,8] G (fun gk x7 x8 wr=>∃(q:Nat) (b:Bool),x7= .bool b/\x8= .int .i64 (q:Int)/\q+gk=G/\Hid (K_ wo wr)/\Hid (b=true↔∃(p:Nat) (e:aX),p<q/\S.busy[p]? =some (some e)/\e.name=y))
  case atStart=>exact⟨0,false,rfl,rfl,by omega,K_.refl _,Kz ⟨(fun h=>by cases h),fun ⟨p,e,O,_⟩=>aB O⟩⟩
  case round=>
   obtain⟨q,b,rfl,rfl,g2,t,HB⟩:=hrel;obtain⟨k,rfl⟩:=ag wr;have z:=Kz (v.o.kept (M.trans (B.o.trans t.o)));have e6:=z.o.mem.at.2.2.2.1;rw[<-a3.o,<-a4.o,<-W.o] at e6;have e7:F<k.heap.size:=by rw[a3.o];exact z.o.mem.row.lt
   have d2:k.cell? ⟨Z,yo+i,none⟩=some (.string y):=(t.o.cell c4).trans e4.o;by_cases hq:q<G
   ·have g3:(q:Int)<(G:Int):=by omega
    obtain⟨a0,hx⟩:=ag (S.busy.getD q none);have b0:=z.o.mem.bsy q (by rw[<-W.o];exact hq);rw[<-hx,<-a4.o] at b0;have g4:b7<k.heap.size:=by rw[a4.o];exact z.o.mem.iq.lt
    obtain⟨P,hz⟩:=ag ((match a0 with|some e=>e.name|none=>(⟨#[]⟩:Qw)));have g5:k.cell? ⟨b7,q*3,none⟩=some (.string P):=by
     have:=b0 0 (.string P) (by rw[hz];cases a0 <;> rfl);exact this
    have HZ:Hid ((∃e:aX,S.busy[q]? =some (some e)/\e.name=y)↔P=y):=by
     have hl:q<S.busy.length:=by rw[z.o.mem.len,<-W.o];exact hq
     have e8:S.busy[q]? =some a0:=by rw[hx];simp[List.getD,hl]
     show _↔_;rw[e8,hz];constructor
     ·rintro⟨e,s,f⟩;simp only[PN] at s;rw[s];exact f
     ·intro h;cases a0 with
      | some e=>exact⟨e,rfl,h⟩
      | none=>
       have:=c7.o.2.2.1;rw[<-h] at this;exact Qi this (by decide)
    have b1:Hid (∀b2:Bool,b2= (b || (P.toList == y.toList))->(b2=true↔∃(p:Nat) (e:aX),p<q+1/\S.busy[p]? =some (some e)/\e.name=y)):=fun b2 e9=>by
     rw[e9,Bool.or_eq_true,HB.o];constructor
     ·rintro (⟨p,e,s,f⟩|h)
      ·exact⟨p,e,by omega,f⟩
      ·obtain⟨e,s⟩:=HZ.o.2 (sU h);exact⟨q,e,by omega,s⟩
     ·rintro⟨p,e,s,f,H⟩;by_cases O:p<q
      ·exact .inl ⟨p,e,O,f,H⟩
      ·obtain rfl:p=q:=by omega
       rw[HZ.o.1 ⟨e,f,H⟩];exact .inr (by simp)
    clear b0 hx hz;cases b
    ·cases d3:(P.toList == y.toList)
     ·go_wp2_with fail
      go_region
      all_goals
       go_wp2
       go_roundg (gk-1)
       case measure=>omega
       case rel=>exact⟨q+1,false,rfl,by go_num,by omega,Kz ((t.o).drew),Kz (b1.o false (by rw[d3];rfl))⟩
     ·go_wp2_with fail
      go_region
      all_goals
       go_wp2
       go_roundg (gk-1)
       case measure=>omega
       case rel=>exact⟨q+1,true,rfl,by go_num,by omega,Kz ((t.o).drew),Kz (b1.o true (by rw[d3];rfl))⟩
    ·go_wp2_with fail
     go_region
     all_goals
      go_wp2
      go_roundg (gk-1)
      case measure=>omega
      case rel=>exact⟨q+1,true,rfl,by go_num,by omega,Kz ((t.o).drew),Kz (b1.o true rfl)⟩
   ·have g6:¬((q:Int)<(G:Int)):=by omega
    have d4:Hid (b=true↔Bz S y):=by
     show _↔_;rw[HB.o];constructor
     ·rintro⟨p,e,_,f⟩;exact⟨p,e,f⟩
     ·rintro⟨p,e,f⟩;refine⟨p,e, ?_,f⟩;have:=(O_.1 f.1).1;rw[z.o.mem.len,<-W.o] at this;omega
    have b3:=z.o.mem.at.1;rw[<-a3.o,e0.o] at b3;have f0:J<k.heap.size:=OV d1.o z.o.mem.kw.size;have a1:Hid (∀u,K_ k u->u.cell? ⟨F,0,none⟩=some (.slice (some ⟨J,no,none⟩) c.Kq.length c.cap)/\u.cell? ⟨Z,yo+i,none⟩=some (.string y)/\u.cell? ⟨J,no+C*3+1,none⟩=some (.int .i64 (aM (Kk c.Kq) y))):=fun u Q=>⟨(Q.cell e7).trans b3,(Q.cell (OV c4 t.o.size)).trans d2,(Q.cell f0).trans ((t.o.cell (OV d1.o (v.o.kept (M.trans B.o)).mem.kw.size)).trans e1.o)⟩
    have f1:=Kz (fun u (Q:K_ k u)=>e2.o u (z.o.mem.kw.trans Q));have g7:(C:Int)<(c.Kq.length:Int):=by have:=e3.o;omega
    have g8:c.Kq.length<=60:=L.o.len;have f2:Hid (∀A∈j.take i,aH A y):=fun A r=>by
     obtain⟨p,O,e⟩:=Ph r;rw[Pt] at O;have:=Pg.1 d6.o p i (by omega) E (by omega);rw[<-e,PI,<-HY.o];exact this
    clear b3 d2;obtain⟨cy,b4⟩:=ag (aM (Kk c.Kq) y);rw[<-b4] at a1;have b5:=Kz b4;clear b4;go_wp2
    refine Qk.region (by kernel_rfl) (fun u=>u.cell? ⟨F,0,none⟩=some (.slice (some ⟨J,no,none⟩) c.Kq.length c.cap)/\u.cell? ⟨Z,yo+i,none⟩=some (.string y)/\u.cell? ⟨J,no+C*3+1,none⟩=some (.int .i64 cy)) 18 (a1.o _ (bB k)) (fun g=>?_);have x:K_ k k.drew:=bB k;generalize f3:k.drew=wd at g x⊢;clear f3;refine af 0 g ?_;refine af 4 g ?_;refine af 8 g ?_;refine ae 12 g ?_;refine ax 13 (fun K l=>?_);go_simp
    go_at_call 55
    refine (f1.o _ x).mono ?_;rintro e w5 ⟨rfl,k5⟩;have R:=x.trans k5;clear k5 x;dsimp only;refine l.out _ _ (fun _=>a1.o _ R) ?_;clear l K g;try simp only[Act.put,upA,upB,upC]
    have g:=a1.o _ R;refine af 14 g ?_;refine ax 18 (fun K l=>?_);go_simp
    refine l.out _ _ (fun h=>Qi rfl h) ?_;clear l K;try simp only[Act.put,upA,upB,upC]
    refine az ?_;have g9:=g.2.1;clear g;cases b
    ·have b6:Hid (Of (Kk c.Kq) S y):=⟨e5.o,fun h=>by have:=d4.o.2 h;cases this⟩;by_cases f4:I<cy
     ·go_wp2
      go_roundg (j.length-(i+1))
      case measure=>omega
      case rel=>exact⟨i+1,y,cy,rfl,rfl,by go_num,by omega,Kz (B.o.trans (t.o.trans R)),Kz (by rw[Pb E,HY.o,b5.o];exact Y.o.yes b6.o (by rw[<-b5.o];exact f4))⟩
     ·go_wp2
      go_roundg (j.length-(i+1))
      case measure=>omega
      case rel=>exact⟨i+1,m,I,rfl,rfl,by go_num,by omega,Kz (B.o.trans (t.o.trans R)),Kz (by rw[Pb E,HY.o];exact Y.o.less (by rw[<-b5.o];omega) c7.o.1 f2.o)⟩
    ·have b6:Hid (¬Of (Kk c.Kq) S y):=fun h=>h.2 (d4.o.1 rfl)
     go_wp2
     go_roundg (j.length-(i+1))
     case measure=>omega
     case rel=>exact⟨i+1,m,I,rfl,rfl,by go_num,by omega,Kz (B.o.trans (t.o.trans R)),Kz (by rw[Pb E,HY.o];exact Y.o.no b6.o)⟩
theorem bi.CE{c:fD}{S:aS}{D:iy}{w u:Qy}(h:bi c S D w)(k:But (fun x=>D.own c S x) w u):bv w u:= .CB k (fun b a d=>by
 rcases d with e|e|e|e
 ·exact aA a h.row.type (by decide) e
 ·exact aA a h.iq.type (by decide) e
 ·exact aA a (Y_ h.slt e) (by decide) rfl
 ·exact aA a (Y_ h.bak e) (by decide) rfl)
theorem ui{n:Qw}(h:0<n.size):(n.toList == ([]:List UInt8))=false:=by
 cases b:(n.toList == ([]:List UInt8))
 ·rfl
 ·have a:n.toList=[]:=by simpa using b
  rw[ByteArray.toList_eq] at a;have d:n.size=0:=by
   show n.data.size=0;rw[<-Array.length_toList,a]
   rfl
  omega
theorem CJ(n:Qw)(x y:Int):(#[Value.string n,.int .i64 x,.int .i64 y]).all (·.oneCell')=true:=by simp[Value.oneCell']
theorem Tryz.EF :(prog.info? 3).map (fun i=>(i.zero,i.size,i.bytes))=some (some (.int .i64 0),1,8):=by kernel_rfl
def NE(c:fD)(S:aS)(t:Int)(w w':Qy)(e:Ending):Prop:=∃S',Says e (¬lg S')/\j_ (Kk c.Kq) t S S'/\jX c S' w'/\bv w w'
structure xn (c:fD) (S:aS) (t:Int) (w:Qy) (q:Nat) (b:Bool) (S1:aS) (wr:Qy):Prop where
 LK:jX c S1 wr
 goes:∀A,j_ (Kk c.Kq) t S1 A->j_ (Kk c.Kq) t S A
 full:(∀p,p<q->S1.busy[p]?≠some none)\/∀n,¬Of (Kk c.Kq) S1 n
 works:b=true↔∃(p:Nat) (e:aX),p<q/\S1.busy[p]? =some (some e)
 spt:∀n,¬Sp (Kk c.Kq) S1 n
 len:S1.slots.length<=100000+q
 plan:bv w wr
section
variable {c : fD} {S S1 : aS} {t : Int} {w wr wu : Qy} {q : Nat} {b : Bool}
theorem xn.LP(h:xn c S t w q b S1 wr){e:aX}(a:S1.busy[q]? =some (some e)):xn c S t w (q+1) true S1 wr:=by
 refine⟨h.LK,h.goes, ?_,⟨fun _=>⟨q,e,by omega,a⟩,fun _=>rfl⟩,h.spt,by have:=h.len;omega,h.plan⟩;rcases h.full with g | g
 ·refine .inl fun p f=>?_
  by_cases d:p=q
  ·rw[d,a];simp
  ·exact g p (by omega)
 ·exact .inr g
theorem xn.idle1(h:xn c S t w q b S1 wr)(d:S1.busy[q]? =some none)(f:∀n,¬Of (Kk c.Kq) S1 n)(k:K_ wr wu):xn c S t w (q+1) b S1 wu:=by
 obtain⟨D,g⟩:=h.LK;refine⟨⟨D,g.kept k⟩,h.goes,.inr f, ?_,h.spt,by have:=h.len;omega,h.plan.trans (.aj k)⟩;rw[h.works];constructor
 ·rintro⟨p,e,i,a⟩;exact⟨p,e,by omega,a⟩
 ·rintro⟨p,e,i,a⟩;refine⟨p,e, ?_,a⟩;by_cases j:p=q
  ·rw[j,d] at a;simp at a
  ·omega
theorem xn.begun(h:xn c S t w q b S1 wr){n:Qw}(a:S1.busy[q]? =some none)(d:nH (Of (Kk c.Kq) S1) (qH (Kk c.Kq)) n)(j:jX c (f_ (Kk c.Kq) S1 t q n) wu)(k:bv wr wu):xn c S t w (q+1) true (f_ (Kk c.Kq) S1 t q n) wu:=by
 have e:∀p,p<q->S1.busy[p]?≠some none:=by
  rcases h.full with g|g
  ·exact g
  ·exact Qi d.1 (g n)
 have l:q<S1.busy.length:=(O_.1 a).1;have f:(f_ (Kk c.Kq) S1 t q n).busy[q]? =some (some ⟨n,t+aM (Kk c.Kq) n,S1.slots.length⟩):=by
  show (S1.busy.set q _)[q]? =_;rw[Qe l]
 refine⟨j,fun A m=>h.goes A (.go a e d m),.inl fun p r=>?_,⟨fun _=>⟨q,_,by omega,f⟩,fun _=>rfl⟩,h.spt, ?_,h.plan.trans k⟩
 ·by_cases i:p=q
  ·rw[i,f];simp
  ·show (S1.busy.set q _)[p]?≠_;rw[Pp (fun x=>i x.symm)];exact e p (by omega)
 ·show (S1.slots++ [_]).length<=_;rw[PM];have:=h.len;simp only[Qr];omega
end
theorem zY{c:fD}{S:aS}{w:Qy}{t:Int}(hA:jX c S w)(hk:m_ c)(hs:∀n,¬Sp (Kk c.Kq) S n)(ht:0<=t/\t<=1000000)(f8:S.slots.length<=100000):
  Calls prog 24 #[.pointer (some ⟨c.hb,0,none⟩),.int .i64 t] w fun e w'=>NE c S t w w' e:=by
 obtain⟨is,f9,g0,g1,g2⟩:=aN Tryz.nJ;obtain⟨ii,g3,g5,g6,g8⟩:=aN Tryz.EF;obtain⟨h,a7⟩:=ag c.hb;obtain⟨y,c7⟩:=ag c.bsb;obtain⟨v,a8⟩:=ag c.wk;have⟨j,O,C⟩:=bA a7 c7 a8;have j4:v<=60:=by rw[a8];exact hk.wk.2
 have T:=Kz hk;have g9:Hid (xn c S t w 0 false S w):=⟨hA,fun _ i=>i,.inl (fun z E=>aB E),⟨(fun i=>by cases i),fun ⟨z,e,E,_⟩=>aB E⟩,hs,by omega,.refl w⟩;rw[<-a7];clear hA hk hs f8 a7 c7 a8;go_enter func24,ntmps24
 go_wp2
 go_loopg [5,6] v (fun gk x5 x6 wr=>∃(q:Nat) (b:Bool) (a:aS),x5= .bool b/\x6= .int .i64 (q:Int)/\q+gk=v/\Hid (xn c S t w q b a wr))
 case atStart=>exact⟨0,false,S,rfl,rfl,by omega,g9⟩
 case round=>
  obtain⟨q,b,a,rfl,rfl,j5,l⟩:=hrel;obtain⟨g,U⟩:=l.o.LK;have a9:=U.mem.at.2.2.2.1;rw[<-j.o,<-O.o,<-C.o] at a9;have c8:h<wr.heap.size:=by rw[j.o];exact U.mem.row.lt
  have h0:y<wr.heap.size:=by rw[O.o];exact U.mem.iq.lt
  have A:=Kz U;clear U;by_cases hq:q<v;rotate_left
  ·have j6:¬((q:Int)<(v:Int)):=by omega
   have j7:q=v:=by omega
   have c9:Hid (b=true↔¬lg a):=by
    show _↔_;rw[l.o.works];constructor
    ·rintro⟨z,e,_,h2⟩ hi;exact hi z e h2
    ·intro hi;by_cases V:∃(z:Nat) (e:aX),z<q/\a.busy[z]? =some (some e)
     ·exact V
     ·refine Qi (fun z e E=>V ⟨z,e, ?_,E⟩) hi;have h1:=(O_.1 E).1;rw[A.o.mem.len,<-C.o] at h1;omega
   have d0:Hid (j_ (Kk c.Kq) t S a):=by
    refine l.o.goes _ (.stop ?_);rcases l.o.full with b0|b0
    ·refine .inl fun z E=>?_
     have h1:=(O_.1 E).1;rw[A.o.mem.len,<-C.o] at h1;exact b0 z (by omega) E
    ·exact .inr b0
   cases b
   ·go_wp2
    go_ret
    exact⟨a,Says.no (fun i=>by have:=c9.o.2 i;cases this),d0.o,⟨g,A.o⟩,l.o.plan⟩
   ·go_wp2
    go_ret
    exact⟨a,Says.yes (c9.o.1 trivial),d0.o,⟨g,A.o⟩,l.o.plan⟩
  have j8:(q:Int)<(v:Int):=by omega
  have F:=A.o.mem.bsy q (by rw[<-C.o];exact hq);rw[<-O.o] at F;have b1:a.busy[q]? =some (a.busy.getD q none):=by
   have hl:q<a.busy.length:=by rw[A.o.mem.len,<-C.o];exact hq
   simp[List.getD,hl]
  obtain⟨P,V⟩:=ag (a.busy.getD q none);rw[<-V] at F b1;have G:=Kz b1;clear V b1;cases P with
  | some e=>
   have b2:wr.cell? ⟨y,q*3,none⟩=some (.string e.name):=F 0 _ rfl;have h3:(e.name.toList == ([]:List UInt8))=false:=by
    obtain⟨d1,W,_⟩:=A.o.live.bP.rdy q e G.o;exact ui (A.o.cost T.o W).2.2.1
   have j9:(e.name.toList != ([]:List UInt8))=true:=by simp only[bne,h3];rfl
   clear F;cases b
   ·go_wp2
    go_roundg (gk-1)
    case measure=>omega
    case rel=>exact⟨q+1,true,a,rfl,by go_num,by omega,Kz (l.o.LP G.o)⟩
   ·go_wp2
    go_roundg (gk-1)
    case measure=>omega
    case rel=>exact⟨q+1,true,a,rfl,by go_num,by omega,Kz (l.o.LP G.o)⟩
  | none=>
   have b2:wr.cell? ⟨y,q*3,none⟩=some (.string ⟨#[]⟩):=F 0 _ rfl;have b3:=xZ A.o T.o;rw[<-j.o] at b3;have d2:=Kz b3;clear F b3;go_wp2_with fail
   refine d2.o.mono ?_;rintro e X ⟨⟨d,rfl,h4⟩,Y⟩;have p:=Kz (A.o.kept Y);have d3:X.cell? ⟨h,3,none⟩=some (.slice (some ⟨y,0,none⟩) v v):=(Y.cell c8).trans a9;have h5:X.cell? ⟨y,q*3,none⟩=some (.string ⟨#[]⟩):=(Y.cell h0).trans b2;have a1:=Kz Y;clear a9 b2 Y d2;rcases h4 with⟨rfl,d4⟩|⟨h6,a2⟩
   ·have d5:=Kz d4;clear d4;cases b
    ·go_wp2
     go_roundg (gk-1)
     case measure=>omega
     case rel=>exact⟨q+1,false,a,rfl,by go_num,by omega,Kz (l.o.idle1 G.o d5.o a1.o)⟩
    ·go_wp2
     go_roundg (gk-1)
     case measure=>omega
     case rel=>exact⟨q+1,true,a,rfl,by go_num,by omega,Kz (l.o.idle1 G.o d5.o a1.o)⟩
   ·have h7:=ui h6;have k0:(d.toList != ([]:List UInt8))=true:=by simp only[bne,h7];rfl
    have b4:=Kz a2;obtain⟨d1,W,_⟩:=id a2.1.1;have h8:=p.o.cost T.o W;have d6:=p.o.live.bP.ok.known d d1 W;obtain⟨d7,nb,no,k1,ha,h9,d8,b5⟩:=p.o.mem.nodeAt T.o d6;rw[ha] at b5;have a3:=p.o.mem.at.1;have Q:=p.o.mem.at.2.2.2.2.1;rw[<-j.o] at a3 Q;rw[ha] at a3;have b6:=OV c8 a1.o.size;have i0:nb<X.heap.size:=OV h9 p.o.mem.kw.size;have b7:Hid (∀u,K_ X u->u.cell? ⟨h,3,none⟩=some (.slice (some ⟨y,0,none⟩) v v)/\u.cell? ⟨h,0,none⟩=some (.slice (some ⟨nb,no,none⟩) c.Kq.length c.cap)/\u.cell? ⟨h,4,none⟩=some (.slice g.sa a.slots.length g.sc)/\u.cell? ⟨nb,no+d7*3+1,none⟩=some (.int .i64 (aM (Kk c.Kq) d))):=fun u B=>⟨(B.cell b6).trans d3,(B.cell b6).trans a3,(B.cell b6).trans Q,(B.cell i0).trans d8⟩
    have i1:=Kz (fun u (B:K_ X u)=>b5 u (p.o.mem.kw.trans B));have k3:(d7:Int)<(c.Kq.length:Int):=by omega
    have k4:c.Kq.length<=60:=T.o.len;have k5:IntKind.i64.wrap (t+aM (Kk c.Kq) d)=t+aM (Kk c.Kq) d:=dK (by omega) (by omega);have i2:a.slots.length<=100060:=by have:=l.o.len;omega
    have k6:a.back.length<=100060:=by rw[p.o.live.bP.back];exact i2
    have k7:g.cl.length<=100000:=by have:=p.o.bud;omega
    have i3:Hid (oH g.cl d=a.cause d):=p.o.cau d a2.1.1;clear a3 Q d8 b5 ha W a2 h8 d6 d3 h5;go_wp2
    refine aR 30 b7.o fun R M f=>?_
    refine af 0 f ?_;refine af 4 f ?_;refine af 8 f ?_;refine af 12 f ?_;refine ae 16 f ?_;refine af 23 f ?_;refine ae 27 f ?_;refine ax 17 (fun K k=>?_);go_simp
    go_at_call 55
    refine (i1.o _ M).mono ?_;rintro e Z ⟨rfl,k2⟩;have K2:=M.trans k2;clear k2 M;dsimp only;refine k.out _ _ (fun _=>b7.o _ K2) ?_;clear k K f;try simp only[Act.put,upA,upB,upC]
    have f:=b7.o _ K2;refine af 18 f ?_;refine ae 22 f ?_;refine ae 28 f ?_;refine ae 29 f ?_;have b8:=Kz (p.o.mem.kept K2);have d9:Hid (Z.there y (q*3) 3):=by rw[O.o];exact b8.o.iq.row.there (o:=q*3) (m:=3) (by rw[<-C.o];omega)
    clear f;refine ax 30 (fun K k=>?_);refine wp_store_mid 98 _ _ rfl y (q*3) #[.string d,.int .i64 (t+aM (Kk c.Kq) d),.int .i64 (a.slots.length:Int)] (by rfl) (by rfl) d9.o (by kernel_rfl) (CJ _ _ _) ?_;refine k.out _ _ (fun i=>Qi rfl i) ?_;clear k K;try simp only[Act.put]
    refine az ?_;have N:=Kz (b8.o.worker (k:=q) (by rw[<-C.o];exact hq) (some ⟨d,t+aM (Kk c.Kq) d,a.slots.length⟩));have e0:=Kz (b8.o.CE (But.setCells (S:=fun P=>g.own c a P) (g:=c.bsb) (.inr (.inl rfl)) (dD (some ⟨d,t+aM (Kk c.Kq) d,a.slots.length⟩)) (q*3) (.aj (K_.refl Z))));have e1:Z.setCells y (q*3) [.string d,.int .i64 (t+aM (Kk c.Kq) d),.int .i64 (a.slots.length:Int)]=Z.setCells c.bsb (q*3) (dD (some ⟨d,t+aM (Kk c.Kq) d,a.slots.length⟩)):=by rw[O.o];rfl
    rw[e1];generalize i4:Z.setCells c.bsb (q*3) (dD (some ⟨d,t+aM (Kk c.Kq) d,a.slots.length⟩))=H at N e0⊢;clear i4 e1 d9;have Q:=N.o.at.2.2.2.2.1;rw[<-j.o] at Q;have e3:h<H.heap.size:=by rw[j.o];exact N.o.row.lt
    have r:Hid (K_ H (H.alloc (.cells #[.int .i64 t,.int .i64 (q:Int),.string d] 109))):=ak _ _;have a4:=Kz (ai N.o.slt r.o);have a5:Hid (∀I u,([.int .i64 t,.int .i64 (q:Int),.string d]:List QA)[I]? =some u->(H.alloc (.cells #[.int .i64 t,.int .i64 (q:Int),.string d] 109)).cell? ((⟨H.heap.size,0,none⟩:Addr).add I)=some u):=fun I u J=>by rw[PQ];exact X_ H #[.int .i64 t,.int .i64 (q:Int),.string d] 109 I u J
    have a6:Hid (∀u∈([.int .i64 t,.int .i64 (q:Int),.string d]:List QA),u.oneCell'=true):=fun u J=>by
     simp only[PS,PT,or_false] at J;rcases J with rfl | rfl | rfl <;> rfl
    have F:c.w0.heap.size<=(H.alloc (.cells #[.int .i64 t,.int .i64 (q:Int),.string d] 109)).heap.size:=(N.o.kept r.o).kw.size;go_wp2_with (at_builtin;refine wpList_append_lies _ rfl (.tmp 64) (.tmp 69) 28 rfl c.w0.heap.size 109 is _ 3 32 underlying28 f9 g0 g1 g2 rfl (by decide) (.slice g.sa a.slots.length g.sc) a.slots.length (bI a.slots) rfl a4.o ⟨H.heap.size,0,none⟩ 1 1 [.int .i64 t,.int .i64 (q:Int),.string d] rfl rfl a5.o a6.o (by omega) (by unfold maxLen;omega) (by omega) F _ rfl ?_;intro g4 b9 w4 e4 c0 e5 _;obtain⟨c1,e6⟩:=N.o.Mq r.o (s:=⟨t,q,d⟩) e4 c0 e5;have L:=(But.aj (S:=fun P=>(Value.slice g.sa a.slots.length g.sc).ownBlock=some P) r.o).trans (.aQ c0 (fun _ i=>i));have i5:w4.cell? ⟨h,4,none⟩=some (.slice g.sa a.slots.length g.sc):=(L.cell e3 (fun e=>(N.o.ne.2.1 _ e).1 j.o)).trans Q;have i6:h<w4.heap.size:=OV e3 L.size;rw[<-j.o] at e6 c1;have e7:=Kz c1;have e8:Hid (bv H (w4.setCell ⟨h,4,none⟩ (.slice (some ⟨g4,0,none⟩) (a.slots.length+1) b9))):=N.o.CE ((L.mono (fun _ _ e=>.inr (.inr (.inl e)))).set (p:=⟨h,4,none⟩) (.inl j.o) _);clear e4 c0 e5 c1 L)
    generalize i7:w4.setCell ⟨h,4,none⟩ (.slice (some ⟨g4,0,none⟩) (a.slots.length+1) b9)=w5 at e7 e8⊢;clear i7 i5 e6 i6 r a4 a5 a6 F Q;have x:=e7;have i8:Hid (∀u,K_ w5 u->Calls prog 53 #[.pointer (some ⟨h,0,none⟩),.string d] u fun e w'=>e= .returned (.int .i64 (a.cause d))/\w'=u):=fun u B=>by
     have i:=vC (x.o.kept B) d (by show g.cl.length<=1000000;omega);rw[<-j.o] at i;have e2:=i3.o;rw[<-e2];exact i
    have c2:=x.o.at.2.2.2.2.2.1;rw[<-j.o] at c2;have i9:h<w5.heap.size:=by rw[j.o];exact x.o.row.lt
    have a0:Hid (∀u,K_ w5 u->u.cell? ⟨h,5,none⟩=some (.slice g.ba a.back.length g.bc)):=fun u B=>(B.cell i9).trans c2
    clear c2;refine aR 12 a0.o fun R M f=>?_
    refine af 0 f ?_;refine ae 4 f ?_;refine ae 5 f ?_;refine ae 6 f ?_;refine ax 7 (fun K k=>?_);go_simp
    go_at_call 53
    refine (i8.o _ M).mono ?_;rintro e w6 ⟨rfl,e9⟩;rw[e9];clear e9 w6;dsimp only;refine k.out _ _ (fun _=>a0.o _ M) ?_;clear k K f;try simp only[Act.put,upA,upB,upC]
    have f:=a0.o _ M;refine ax 8 (fun K k=>?_);go_simp
    have r:=Kz (M.alloc (.cells #[.int .i64 (a.cause d)] 3));refine k.out _ _ (fun _=>a0.o _ r.o) ?_;clear k K f;try simp only[Act.put,upA,upB,upC]
    have f:=a0.o _ r.o;have a4:=Kz (ai x.o.bak r.o);have a5:Hid (∀I u,([.int .i64 (a.cause d)]:List QA)[I]? =some u->(R.alloc (.cells #[.int .i64 (a.cause d)] 3)).cell? ((⟨R.heap.size,0,none⟩:Addr).add I)=some u):=fun I u J=>by rw[PQ];exact X_ R #[.int .i64 (a.cause d)] 3 I u J
    have a6:Hid (∀u∈([.int .i64 (a.cause d)]:List QA),u.oneCell'=true):=fun u J=>by simp only[PS,PT,or_false] at J;subst J;rfl
    have j0:Hid (c.w0.heap.size<=(R.alloc (.cells #[.int .i64 (a.cause d)] 3)).heap.size):=(x.o.kept r.o).kw.size;refine ax 9 (fun K k=>?_);refine wp_append_lies _ (.tmp 77) (.tmp 81) 56 rfl c.w0.heap.size 3 ii (.int .i64 0) 1 8 underlying56 g3 g5 g6 g8 rfl (by decide) (.slice g.ba a.back.length g.bc) a.back.length _ rfl a4.o ⟨R.heap.size,0,none⟩ 1 1 [.int .i64 (a.cause d)] rfl rfl a5.o a6.o (by decide) (by unfold maxLen;omega) (by omega) j0.o _ rfl ?_;intro g7 f0 w7 f1 c3 f2 _;obtain⟨c4,f5⟩:=x.o.LM (D:={g with sa:=some ⟨g4,0,none⟩,sc:=b9}) r.o f1 c3 f2;have L:=(But.aj (S:=fun P=>(Value.slice g.ba a.back.length g.bc).ownBlock=some P) r.o).trans (.aQ c3 (fun _ i=>i));have c5:w7.cell? ⟨h,5,none⟩=some (.slice g.ba a.back.length g.bc):=by rw[j.o];exact (L.cell x.o.row.lt (fun e=>(x.o.ne.2.2.1 _ e).1 rfl)).trans x.o.at.2.2.2.2.2.1
    have j1:h<w7.heap.size:=by rw[j.o];exact OV x.o.row.lt L.size
    rw[<-j.o] at f5 c4;have f3:=Kz c4;have f4:Hid (bv w5 (w7.setCell ⟨h,5,none⟩ (.slice (some ⟨g7,0,none⟩) (a.back.length+1) f0))):=x.o.CE ((L.mono (fun _ _ e=>.inr (.inr (.inr e)))).set (p:=⟨h,5,none⟩) (.inl j.o) _);clear c4 L f1 c3 f2;refine k.out _ _ (fun _=>c5) ?_;clear k K f;try simp only[Act.put,upA,upB,upC]
    have f:(fun u:Qy=>u.cell? ⟨h,5,none⟩=some (.slice g.ba a.back.length g.bc)) w7:=c5;refine ae 10 f ?_;refine ae 11 f ?_;clear f;refine ax 12 (fun K k=>?_);go_simp
    refine k.out _ _ (fun i=>Qi rfl i) ?_;clear k K;try simp only[Act.put,upA,upB,upC]
    refine az ?_;generalize j2:w7.setCell ⟨h,5,none⟩ (.slice (some ⟨g7,0,none⟩) (a.back.length+1) f0)=w8 at f3 f4⊢;clear j2 c5 f5 j1;have c6:Hid (bi c (f_ (Kk c.Kq) a t q d) _ w8):=f3;have f6:Hid (jX c (f_ (Kk c.Kq) a t q d) w8):=⟨_,c6.o,p.o.live.begin G.o b4.o.1 l.o.spt,p.o.cau,p.o.bud⟩;have j3:=c6.o.at.2.2.2.1;rw[<-j.o,<-O.o,<-C.o] at j3;have k8:w8.cell? ⟨y,q*3,none⟩=some (.string d):=by
     have i:=c6.o.bsy q (by rw[<-C.o];exact hq);have e2:(f_ (Kk c.Kq) a t q d).busy.getD q none=some ⟨d,t+aM (Kk c.Kq) d,a.slots.length⟩:=by
      have hl:q<a.busy.length:=(O_.1 G.o).1;show (a.busy.set q _).getD q none=_;simp[List.getD,hl]
     rw[e2,<-O.o] at i;exact i 0 _ rfl
    have f7:Hid (bv wr w8):=(bv.aj (a1.o.trans K2)).trans (e0.o.trans (e8.o.trans f4.o));cases b
    ·go_wp2
     go_roundg (gk-1)
     case measure=>omega
     case rel=>exact⟨q+1,true,_,rfl,by go_num,by omega,Kz (l.o.begun G.o b4.o f6.o f7.o)⟩
    ·go_wp2
     go_roundg (gk-1)
     case measure=>omega
     case rel=>exact⟨q+1,true,_,rfl,by go_num,by omega,Kz (l.o.begun G.o b4.o f6.o f7.o)⟩
theorem Ar{b:List (Option aX)}{t:Int}:∀(l:List Qw),(∀m∈l,∃(k:Nat) (e:aX),b[k]? =some (some e)/\e.fin=t/\e.name=m)->∃ps:List (Nat×aX),ps.map (·.2.name)=l/\∀p∈ps,b[p.1]? =some (some p.2)/\p.2.fin=t
 | [],_=>⟨[],rfl,fun _ h=>by cases h⟩
 | m :: l,h=>by
  obtain⟨ps,c,d⟩:=Ar l (fun x f=>h x (Pn _ f));obtain⟨k,e,g,i,j⟩:=h m (Po ..);refine⟨(k,e) :: ps,by simp[c,j],fun p a=>?_⟩;rcases PS.1 a with rfl | a
  ·exact⟨g,i⟩
  ·exact d p a
theorem Gg(b:List (Option aX))(ps:List (Nat×aX))(p:Nat×aX):dH b (ps++ [p])= (dH b ps).set p.1 none:=by unfold dH;rw[List.foldl_append];rfl
theorem nE :∀(ps:List (Nat×aX)) (b:List (Option aX)),(dH b ps).length=b.length
 | [],_=>rfl
 | p :: ps,b=>(nE ps (b.set p.1 none)).trans (Qd ..)
theorem t_ :∀{ps:List (Nat×aX)} {b:List (Option aX)} {k:Nat} {e:aX},(dH b ps)[k]? =some (some e)->b[k]? =some (some e)/\∀p∈ps,p.1≠k
 | [],_,_,_,h=>⟨h,fun _ h=>by cases h⟩
 | p :: ps,b,k,e,h=>by
  obtain⟨c,d⟩:=t_ (ps:=ps) (b:=b.set p.1 none) h;rcases iF c with⟨_,x⟩|⟨f,g⟩
  ·cases x
  ·refine⟨g,fun q a=>?_⟩;rcases PS.1 a with rfl | a
   ·exact fun e=>f e.symm
   ·exact d q a
theorem xA :∀{ps:List (Nat×aX)} {b:List (Option aX)} {k:Nat},(∀p∈ps,p.1≠k)->(dH b ps)[k]? =b[k]?
 | [],_,_,_=>rfl
 | p :: ps,b,k,h=>by
  refine (xA (ps:=ps) (b:=b.set p.1 none) (fun q c=>h q (Pn _ c))).trans ?_;exact Pp (h p (Po ..))
structure iL (W:aZ) (S:aS) (t:Int) (l:List Qw) (ps:List (Nat×aX)):Prop where
 nm:ps.map (·.2.name)=l
 at':∀p∈ps,S.busy[p.1]? =some (some p.2)/\p.2.fin=t
 mem:∀(k:Nat) (e:aX),(S.busy[k]? =some (some e)/\e.fin=t)↔(k,e)∈ps
 asc:ps.Pairwise (fun p q=>aH p.2.name q.2.name)
section
variable {W : aZ} {Kq : List Qz} {wk : Nat} {S : aS} {t : Int} {l : List Qw} {ps : List (Nat × aX)}
theorem iL.made(j:jm W wk S)(n:oN l)(f:∀m,m∈l↔∃(k:Nat) (e:aX),S.busy[k]? =some (some e)/\e.fin=t/\e.name=m):∃ps,iL W S t l ps:=by
 obtain⟨ps,c,d⟩:=Ar l (fun m q=>(f m).1 q);refine⟨ps,c,d,fun k e=>⟨fun ⟨a,r⟩=>?_,fun s=>d _ s⟩, ?_⟩
 ·have g:=(f e.name).2 ⟨k,e,a,r,rfl⟩;rw[<-c] at g;obtain⟨p,h,v⟩:=Pv.1 g;have b:=(d p h).1;have i:=j.diff p.1 k p.2 e b a v;rw[i,a] at b;simp only[PN] at b;have:p= (k,e):=by rw[<-i,b]
  rw[<-this];exact h
 ·have a:(ps.map (·.2.name)).Pairwise aH:=by rw[c];exact n
  exact List.pairwise_map.1 a
theorem iL.ne(h:iL W S t l ps):ps.Pairwise (fun p q=>p.1≠q.1):=by
 refine List.Pairwise.imp_of_mem (fun {p q} d e c f=>?_) h.asc;have b:=(h.at' p d).1;have g:=(h.at' q e).1;rw[f,g] at b;simp only[PN] at b;rw[b] at c;exact aI _ c
theorem iL.len(h:iL W S t l ps):ps.length=l.length:=by rw[<-h.nm,Qc]
theorem iL.name(h:iL W S t l ps){i:Nat}(hi:i<ps.length):l[i]'(by rw[<-h.len];exact hi)=ps[i].2.name:=by
 have:∀(a:List Qw),a=ps.map (·.2.name)->∀(c:i<a.length),a[i]=ps[i].2.name:=fun a e c=>by subst e;simp
 exact this l h.nm.symm _
theorem iL.here(h:iL W S t l ps){i:Nat}(hi:i<ps.length):(dH S.busy (ps.take i))[ps[i].1]? =some (some ps[i].2):=by
 rw[xA (fun p b=>?_)]
 ·exact (h.at' _ (Pf hi)).1
 ·obtain⟨j,d,e⟩:=Ph b;rw[Pt] at d;rw[<-e,PI];exact Pg.1 h.ne j i (by omega) hi (by omega)
theorem iL.other(h:iL W S t l ps)(b:jm W wk S){i j k:Nat}(hi:i<ps.length)(c:k≠ps[i].1){e:aX}(d:(dH S.busy (ps.take j))[k]? =some (some e)):e.name≠ps[i].2.name:=fun f=>
 c (b.diff k ps[i].1 e ps[i].2 (t_ d).1 (h.at' _ (Pf hi)).1 f)
theorem xX :∀{ps:List (Nat×aX)} {S:aS},eu Kq wk S->(∀p∈ps,S.busy[p.1]? =some (some p.2))->ps.Pairwise (fun p q=>p.1≠q.1)->eu Kq wk {S with busy:=dH S.busy ps}
 | [],_,h,_,_=>h
 | p :: ps,S,h,h1,h2=>by
  rw[Qs] at h2;have b:=(h.free (h1 p (Po ..))).1;exact xX (ps:=ps) (S:={S with busy:=S.busy.set p.1 none}) b (fun q a=>(Pp (h2.1 q a)).trans (h1 q (Pn _ a))) h2.2
theorem wX(W:aZ)(S:aS)(ps:List (Nat×aX))(p:Nat×aX):dones W S (ps++ [p])=doneS W (dones W S ps) p.2.name p.2.slot:=by unfold dones;rw[List.foldl_append];rfl
end
def xE(Kq:List Qz)(A:aS)(n:Nat)(ps:List (Nat×aX)):Prop:=ps.Pairwise (fun p q=>aH p.2.name q.2.name)/\∀p∈ps,Rdy (Kk Kq) A p.2.name/\¬Bz A p.2.name/\p.2.slot<n
variable {ps : List (Nat × aX)}
theorem xE.next{Kq:List Qz}{A:aS}{n:Nat}{p:Nat×aX}{j:Int}(h:xE Kq A n (p :: ps))(d:dB A.T):xE Kq (doneS (Kk Kq) A p.2.name j) n ps:=by
 obtain⟨a,b⟩:=h;rw[Qs] at a;refine⟨a.2,fun q c=>?_⟩;obtain⟨f,g,i⟩:=b q (Pn _ c);exact⟨jQ d (b p (Po ..)).1 f (fun e=>by have:=a.1 q c;rw[e] at this;exact aI _ this),g,i⟩
theorem iL.left{Kq:List Qz}{wk:Nat}{S:aS}{t:Int}{l:List Qw}(h:iL (Kk Kq) S t l ps)(b:eu Kq wk S):eu Kq wk {S with busy:=dH S.busy ps}/\xE Kq {S with busy:=dH S.busy ps} S.slots.length ps:=by
 refine⟨xX b (fun p a=>(h.at' p a).1) h.ne,h.asc,fun p a=>⟨b.bP.rdy p.1 p.2 (h.at' p a).1,fun ⟨k,e,c,d⟩=>?_,b.bP.slot p.1 p.2 (h.at' p a).1⟩⟩;obtain⟨f,g⟩:=t_ c;exact g p a (b.bP.diff p.1 k p.2 e (h.at' p a).1 f d.symm)
theorem bi.Ij{c:fD}{S:aS}{D:iy}{w w':Qy}(h:bi c S D w)(a:But (fun x=>x=c.bsb) w w')(g:aL w' c.bsb 98 (c.wk*3)){b:List (Option aX)}(i:b.length=c.wk)(j:∀k,k<c.wk->w'.rangeAt c.bsb (k*3) (dD (b.getD k none))):bi c {S with busy:=b} D w':=by
 obtain⟨l,m,n,p⟩:=h.stays a (fun y e=>.inr (.inl e));have f:¬c.hb=c.bsb:=fun e=>h.ne.1 e.symm
 exact⟨l,a.row h.row f,a.range h.row f h.cel,h.hlow,h.za,i,g,j,a.owns h.slt (fun y e d=>(h.ne.2.1 y e).2 d),a.owns h.bak (fun y e d=>(h.ne.2.2.1 y e).2.1 d),p,m,n,h.sep,OX h.top a.size,h.obw,OV h.obl a.size,h.obs⟩
def slV(ps:List (Nat×aX)):List QA:=ps.map (fun p=>Value.int .i64 (p.2.slot:Int))
structure Bj (c:fD) (S:aS) (w:Qy) (l:List Qw) (ps:List (Nat×aX)) (na:Qx) (nc:Nat) (j:Nat) (sa:Qx) (sc:Nat) (wr:Qy):Prop where
 but:But (fun x=>x=c.bsb) w wr
 row:aL wr c.bsb 98 (c.wk*3)
 bsy:∀k,k<c.wk->wr.rangeAt c.bsb (k*3) (dD ((dH S.busy (ps.take j)).getD k none))
 sl:wr.ownsRow w.heap.size 3 1 (.slice sa j sc) j (slV (ps.take j))
 nms:wr.ownsRow w.heap.size 9 1 (.slice na l.length nc) l.length (l.map Value.string)
theorem Bj.kept{c:fD}{S:aS}{w:Qy}{l:List Qw}{b:Qx}{d:Nat}{j:Nat}{e:Qx}{f:Nat}{wr g:Qy}(h:Bj c S w l ps b d j e f wr)(k:K_ wr g):Bj c S w l ps b d j e f g:=
 ⟨h.but.trans (.aj k),h.row.kept k,fun q i=>k.range h.row.lt (h.bsy q i),ai h.sl k,ai h.nms k⟩
theorem Bj.more{c:fD}{S:aS}{w:Qy}{l:List Qw}{s:Qx}{t:Nat}{j:Nat}{f:Qx}{h:Nat}{wr k w1:Qy}(v:Bj c S w l ps s t j f h wr)(M:c.bsb<w.heap.size)(E:j<ps.length)(F:ps[j].1<c.wk)(G:S.busy.length=c.wk)(H:K_ wr k){g cp:Nat}
 (z:w1.ownsRow w.heap.size 3 1 (.slice (some ⟨g,0,none⟩) (j+1) cp) (j+1) (slV (ps.take j)++ [.int .i64 (ps[j].2.slot:Int)])) (I:k.grownBy w1 (Value.slice f j h).ownBlock):
  Bj c S w l ps s t (j+1) (some ⟨g,0,none⟩) cp (w1.setCells c.bsb (ps[j].1*3) (dD none))/\aL w1 c.bsb 98 (c.wk*3):=by
 have a:=v.kept H;have A:∀x,(Value.slice f j h).ownBlock=some x->w.heap.size<=x:=fun x e=>(v.sl.lt x e).1
 have d:But (fun x=>(Value.slice f j h).ownBlock=some x) k w1:= .aQ I (fun _ e=>e);have B:¬(Value.slice f j h).ownBlock=some c.bsb:=fun e=>by have:=A _ e;omega
 have n:=d.row a.row B;have J:But (fun x=>x=c.bsb) w w1:=⟨d.os.trans a.but.os,d.tape.trans a.but.tape,d.output.trans a.but.output,OX a.but.size d.size,fun b C K=>(d.block b (OV C a.but.size) (fun e=>by have:=A _ e;omega)).trans (a.but.block b C K)⟩;have p:But (fun x=>x=c.bsb) w1 (w1.setCells c.bsb (ps[j].1*3) (dD none)):=But.setCells (S:=fun y=>y=c.bsb) rfl _ _ (.aj (K_.refl w1));have D:ps.take (j+1)=ps.take j++ [ps[j]]:=Pb E;refine⟨⟨J.trans p,aL.sets _ _ n,fun q L=>?_, ?_, ?_⟩,n⟩
 ·rw[D,Gg];by_cases e:q=ps[j].1
  ·rw[e];have i:((dH S.busy (ps.take j)).set ps[j].1 none).getD ps[j].1 none=none:=by simp[List.getD,nE,G,F]
   rw[i];exact OY w1 c.bsb (ps[j].1*3) (dD none) (n.row.there (o:=ps[j].1*3) (m:=3) (by omega))
  ·have i:((dH S.busy (ps.take j)).set ps[j].1 none).getD q none= (dH S.busy (ps.take j)).getD q none:=by simp only[List.getD];rw[Pp (fun y=>e y.symm)]
   rw[i];exact Pm (d.range a.row B (a.bsy q L)) c.bsb (ps[j].1*3) (dD none) (by rw[yD,yD];omega)
 ·have i:slV (ps.take (j+1))=slV (ps.take j)++ [.int .i64 (ps[j].2.slot:Int)]:=by unfold slV;rw[D,Qm];rfl
  rw[i];exact p.owns z (fun x e r=>by have:=(z.lt x e).1;omega)
 ·refine p.owns (d.owns a.nms (fun x e r=>?_)) (fun x e r=>by have:=(a.nms.lt x e).1;omega);exact aA (Y_ a.nms e) (Y_ a.sl r) (by decide) rfl
theorem Tryz.Mi :(prog.info? 98).map (·.size)=some 3:=by kernel_rfl
def NJ(c:fD)(S:aS)(t:Int)(w w':Qy)(e:Ending):Prop:=∃S',Says e (∃(k:Nat) (x:aX),S.busy[k]? =some (some x)/\x.fin=t)/\kH (Kk c.Kq) t S S'/\jX c S' w'/\bv w w'
def yI(S:aS)(t:Int)(q:Nat)(l:List Qw):Prop:=oN l/\∀m,m∈l↔∃(p:Nat) (e:aX),p<q/\S.busy[p]? =some (some e)/\e.fin=t/\e.name=m
variable {t : Int} {S : aS}
theorem yI.no{q:Nat}{l:List Qw}(h:yI S t q l)(c:∀e,S.busy[q]? =some (some e)->e.fin≠t):yI S t (q+1) l:=by
 refine⟨h.1,fun m=>?_⟩;rw[h.2];constructor
 ·rintro⟨p,e,d,a⟩;exact⟨p,e,by omega,a⟩
 ·rintro⟨p,e,d,a,b,f⟩;by_cases g:p=q
  ·rw[g] at a;exact Qi b (c e a)
  ·exact⟨p,e,by omega,a,b,f⟩
theorem yI.yes{q:Nat}{l r:List Qw}{e:aX}(h:yI S t q l)(b:S.busy[q]? =some (some e))(d:e.fin=t)(f:Gb l e.name r):yI S t (q+1) r:=by
 obtain⟨g,i⟩:=f.asc h.1;refine⟨g,fun n=>?_⟩;rw[i,h.2];constructor
 ·rintro (⟨p,x,j,a⟩|rfl)
  ·exact⟨p,x,by omega,a⟩
  ·exact⟨q,e,by omega,b,d,rfl⟩
 ·rintro⟨p,x,j,a,k,c⟩;by_cases m:p=q
  ·rw[m,b] at a;simp only[PN] at a;rw[<-c,<-a];exact .inr rfl
  ·exact .inl ⟨p,x,by omega,a,k,c⟩
theorem uR(W:aZ):∀(ps:List (Nat×aX)) (S:aS),(dones W S ps).slots=S.slots
 | [],_=>rfl
 | p :: ps,S=>uR W ps (doneS W S p.2.name p.2.slot)
theorem KO{l r:List Qw}{x:Qw}(h:Gb l x r):r.length<=l.length+1:=by
 rcases h with⟨_,rfl⟩|⟨_,k,c,rfl,_⟩
 ·exact Nat.le_succ _
 ·simp only[PM,Pt,PP,List.length_drop];omega
theorem Bw{c:fD}{w:Qy}(hA:jX c S w)(hk:m_ c):
  Calls prog 22 #[.pointer (some ⟨c.hb,0,none⟩),.int .i64 t] w fun e w'=>NJ c S t w w' e:=by
 obtain⟨e6,hI⟩:=hA;obtain⟨ii,i3,i4,i5,i6⟩:=aN Tryz.EF;obtain⟨hb,c2⟩:=ag c.hb;obtain⟨A,e7⟩:=ag c.bsb;obtain⟨p,c3⟩:=ag c.wk;have⟨O,P,H⟩:=bA c2 e7 c3;have m2:p<=60:=by rw[c3];exact hk.wk.2
 have⟨HK,b⟩:=aD hk hI;obtain⟨WB,a4⟩:=ag ((w.alloc (.cells #[] 9)).alloc (.cells #[] 3));have kB:K_ w WB:=by rw[a4];exact (ak _ _).alloc _
 have e8:Hid (WB.ownsRow w.heap.size 9 1 (.slice (some ⟨w.heap.size,0,none⟩) 0 0) 0 (([]:List Qw).map Value.string)):=by
  rw[a4];exact ai (Pz w #[] 0 (OU _) (OW _) rfl) (ak _ _)
 have e9:Hid (WB.ownsRow w.heap.size 3 1 (.slice (some ⟨w.heap.size+1,0,none⟩) 0 0) 0 []):=by
  rw[a4];have h:=Pz (base:=w.heap.size) (e:=3) (size:=1) (w.alloc (.cells #[] 9)) #[] 0 (by rw[PL];omega) (OW _) rfl;rw[PL] at h;exact h
 rw[<-c2];clear hI hk c2 e7 c3;go_enter func22,ntmps22
 go_upto_region 3 with fail
 try simp only[PL]
 rw[<-a4];clear a4;go_wp2
 go_loopg [5,7] p (fun gk x5 x7 wr=>∃(q y o E:Nat) (l:List Qw),x5= .slice (some ⟨y,o,none⟩) l.length E/\x7= .int .i64 (q:Int)/\q+gk=p/\l.length<=q/\l.length<=E/\Hid (yI S t q l)/\Hid (wr.ownsRow w.heap.size 9 1 (.slice (some ⟨y,o,none⟩) l.length E) l.length (l.map Value.string))/\Hid (K_ WB wr))
 case atStart=>exact⟨0,w.heap.size,0,0,[],rfl,rfl,by omega,OU _,OU _,Kz ⟨.nil,fun f0=>⟨(fun h=>by cases h),fun ⟨b0,e,hp,_⟩=>aB hp⟩⟩,e8,K_.refl _⟩
 case round=>
  obtain⟨q,y,o,E,l,rfl,rfl,m3,m4,c4,s,a5,X⟩:=hrel;have K:=Kz (b.o.kept (kB.trans X.o));have a6:=K.o.mem.at.2.2.2.1;rw[<-O.o,<-P.o,<-H.o] at a6;have b1:hb<wr.heap.size:=by rw[O.o];exact K.o.mem.row.lt
  have b2:A<wr.heap.size:=by rw[P.o];exact K.o.mem.iq.lt
  by_cases hq:q<p
  ·have m5:(q:Int)<(p:Int):=by omega
   have d:=K.o.mem.bsy q (by rw[<-H.o];exact hq);rw[<-P.o] at d;have I:S.busy[q]? =some (S.busy.getD q none):=by
    have hl:q<S.busy.length:=by rw[K.o.mem.len,<-H.o];exact hq
    simp[List.getD,hl]
   obtain⟨x,Q⟩:=ag (S.busy.getD q none);rw[<-Q] at d I;have b3:=Kz I;clear Q I;cases x with
   | none=>
    have b4:wr.cell? ⟨A,q*3,none⟩=some (.string ⟨#[]⟩):=d 0 _ rfl;clear d;go_wp2
    go_roundg (gk-1)
    case measure=>omega
    case rel=>exact⟨q+1,y,o,E,l,rfl,by go_num,by omega,by omega,c4,Kz (s.o.no (fun e a0=>by rw[b3.o] at a0;simp at a0)),a5,X⟩
   | some e=>
    have b4:wr.cell? ⟨A,q*3,none⟩=some (.string e.name):=d 0 _ rfl;have i7:wr.cell? ⟨A,q*3+1,none⟩=some (.int .i64 e.fin):=d 1 _ rfl;have i8:(e.name.toList == ([]:List UInt8))=false:=by
     obtain⟨c5,hr,_⟩:=K.o.live.bP.rdy q e b3.o;exact ui (K.o.cost HK.o hr).2.2.1
    have m6:(e.name.toList != ([]:List UInt8))=true:=by simp only[bne,i8];rfl
    clear d;obtain⟨fi,c6⟩:=ag e.fin;rw[<-c6] at i7;have f1:=Kz c6;clear c6;cases f2:(fi == t)
    ·go_wp2
     go_roundg (gk-1)
     case measure=>omega
     case rel=>exact⟨q+1,y,o,E,l,rfl,by go_num,by omega,by omega,c4,Kz (s.o.no (fun e' a0=>by rw[b3.o] at a0;simp only[PN] at a0;rw[<-a0,<-f1.o];simpa using f2)),a5,X⟩
    ·have i9:Hid (e.fin=t):=by show _=_;rw[<-f1.o];simpa using f2
     obtain⟨_,_,B,C⟩:=bM a5.o;simp only[PO,true_and] at B;rw[<-B.1] at C;have f3:=Kz (AL wr y o E l e.name (by omega) c4 s.o.1 C);clear B C;go_wp2_with fail
     refine f3.o.mono ?_;rintro m7 w5 ⟨b',o',c',c5,rfl,j0,c7,_,f4,k5⟩;have j1:=Kz c7;have j2:=Kz (f4 w.heap.size (kB.trans X.o).size a5.o);have j3:=Kz (X.o.trans k5);have m8:=KO c7;clear c7 f4 k5 f3;go_wp2
     go_roundg (gk-1)
     case measure=>omega
     case rel=>exact⟨q+1,b',o',c',c5,rfl,by go_num,by omega,by omega,j0,Kz (s.o.yes b3.o i9.o j1.o),j2,j3⟩
  have m9:¬((q:Int)<(p:Int)):=by omega
  have n0:q=p:=by omega
  obtain⟨a,c8⟩:=iL.made (W:=Kk c.Kq) (t:=t) (l:=l) K.o.live.bP s.o.1 (fun f0=>by
   rw[s.o.2 f0];constructor
   ·rintro⟨b0,e,_,h⟩;exact⟨b0,e,h⟩
   ·rintro⟨b0,e,h⟩;refine⟨b0,e, ?_,h⟩;have r:=(O_.1 h.1).1;rw[K.o.mem.len,<-H.o] at r;omega)
  have F:=Kz c8;have n1:a.length=l.length:=c8.len;have n2:l.length<=60:=by omega
  obtain⟨wA,rfl⟩:=ag wr;have j4:c.bsb<w.heap.size:=b.o.mem.iq.lt;have j5:Hid (Bj c S w l a (some ⟨y,o,none⟩) E 0 (some ⟨w.heap.size+1,0,none⟩) 0 wA):=by
   have j:=kB.trans X.o;refine⟨.aj j,b.o.mem.iq.kept j,fun Y hk=>?_,ai e9.o X.o,a5.o⟩;exact j.range b.o.mem.iq.lt (b.o.mem.bsy Y hk)
  have f5:Hid (∀i,(hi:i<a.length)->a[i].1<p):=fun i hi=>by
   have r:=(O_.1 (F.o.at' _ (Pf hi)).1).1;rw[b.o.mem.len,<-H.o] at r;exact r
  clear c8 e9 e8 s;go_wp2
  go_loopg [6,8] l.length (fun gk x6 x8 wr=>∃(i:Nat) (L:Qx) (R:Nat),x6= .slice L i R/\x8= .int .i64 (i:Int)/\i+gk=l.length/\Hid (Bj c S w l a (some ⟨y,o,none⟩) E i L R wr))
  case atStart=>exact⟨0,_,_,rfl,rfl,by omega,j5⟩
  case round=>
   obtain⟨i,L,R,rfl,rfl,n3,f6⟩:=hrel;by_cases f7:i<l.length
   ·have j6:(i:Int)<(l.length:Int):=by omega
    have D:i<a.length:=by omega
    obtain⟨wB,rfl⟩:=ag wr;obtain⟨j,c9⟩:=ag (a[i].1);have n4:j<p:=by rw[c9];exact f5.o i D
    have d0:=Kz c9;clear c9;go_wp2
    go_loopg [6,9] p (fun gk x6 x9 wr=>∃(k f:Nat) (L:Qx) (R:Nat),x6= .slice L f R/\x9= .int .i64 (k:Int)/\k+gk=p/\((f=i/\k<=j)\/(f=i+1/\j<k))/\Hid (Bj c S w l a (some ⟨y,o,none⟩) E f L R wr))
    case atStart=>exact⟨0,i,L,R,rfl,rfl,by omega,.inl ⟨rfl,OW _⟩,f6⟩
    case round=>
     obtain⟨k,f,d1,d2,rfl,rfl,n5,b5,M⟩:=hrel;have b6:Hid (bi c {S with busy:=dH S.busy (a.take f)} e6 wr):=b.o.mem.Ij M.o.but M.o.row (by rw[nE];exact b.o.mem.len) M.o.bsy;have a6:=b6.o.at.2.2.2.1;rw[<-O.o,<-P.o,<-H.o] at a6;have b1:hb<wr.heap.size:=by rw[O.o];exact b6.o.row.lt
     have b2:A<wr.heap.size:=by rw[P.o];exact b6.o.iq.lt
     by_cases f8:k<p
     ·have n6:(k:Int)<(p:Int):=by omega
      have d:=M.o.bsy k (by rw[<-H.o];exact f8);rw[<-P.o] at d;have I:(dH S.busy (a.take f))[k]? =some ((dH S.busy (a.take f)).getD k none):=by
       have hl:k<(dH S.busy (a.take f)).length:=by rw[nE,b.o.mem.len,<-H.o];exact f8
       simp[List.getD,hl]
      obtain⟨x,Q⟩:=ag ((dH S.busy (a.take f)).getD k none);rw[<-Q] at d I;obtain⟨_,_,B,C⟩:=bM M.o.nms;simp only[PO,true_and] at B;rw[<-B.1] at C;obtain⟨yb,yo,a7,a8,J⟩:=C i f7;simp only[PN,Qt,and_true] at a7;obtain⟨a1,a2⟩:=a7;rw[<-a1] at a8 J;rw[<-a2] at J;obtain⟨G,v⟩:=ag (a[i].2.name);have b7:wr.cell? ⟨y,o+i,none⟩=some (.string G):=by
       rw[J,v,<-F.o.name D];simp[List.getD,f7]
      have HY:=Kz v;have d3:0<G.size:=by
       have r:=F.o.at' _ (Pf D);obtain⟨c5,hr,_⟩:=b.o.live.bP.rdy _ _ r.1;rw[v];exact (b.o.cost HK.o hr).2.2.1
      by_cases f9:k=j
      ·obtain rfl:i=f:=by rcases b5 with h | h <;> omega
       obtain rfl:j=k:=f9.symm;have d4:x=some a[i].2:=by
        rw[d0.o,F.o.here D] at I;simpa using I.symm
       obtain⟨m,N⟩:∃m:Int,m= (a[i].2.slot:Int):=⟨_,rfl⟩;have b4:wr.cell? ⟨A,j*3,none⟩=some (.string G):=by rw[d4] at d;rw[v];exact d 0 _ rfl
       have g0:wr.cell? ⟨A,j*3+2,none⟩=some (.int .i64 m):=by rw[d4] at d;rw[N];exact d 2 _ rfl
       have n7:(G.toList == G.toList)=true:=by simp
       have j7:=Kz N;clear d I Q C B a1 a2 J v b5 d4 N;go_wp2_with fail
       go_region
       all_goals
        have z:K_ wr wr.drew:=bB wr;have a9:=Kz (M.o.kept z);have g2:=(z.cell (o:=3) b1).trans a6;have j8:=(z.cell (o:=j*3+2) b2).trans g0;have d5:=OV b1 z.size;have j9:=OV b2 z.size;generalize k0:wr.drew=T at a9 g2 j8 d5 j9 z⊢;clear k0 z M b6 a6 g0 b4 b7 a8 b1 b2;have b8:Hid (K_ T (T.alloc (.cells #[.int .i64 m] 3))):=ak _ _;have k1:=Kz (ai a9.o.sl b8.o);have k2:Hid (∀f u,([.int .i64 m]:List QA)[f]? =some u->(T.alloc (.cells #[.int .i64 m] 3)).cell? ((⟨T.heap.size,0,none⟩:Addr).add f)=some u):=fun f u hu=>by rw[PQ];exact X_ T #[.int .i64 m] 3 f u hu
        have k3:Hid (∀u∈([.int .i64 m]:List QA),u.oneCell'=true):=fun u hu=>by simp only[PS,PT,or_false] at hu;subst hu;rfl
        have d:w.heap.size<=(T.alloc (.cells #[.int .i64 m] 3)).heap.size:=(a9.o.kept b8.o).but.size;go_wp2_with (first | (refine wpList_store_mid rfl 98 (.tmp 98) (.tmp 97) rfl A (j*3) #[.string ⟨#[]⟩,.int .i64 0,.int .i64 0] rfl rfl k4.o Tryz.Mi (CJ _ _ _) ?_) | (at_builtin;refine wpList_append_lies _ rfl (.tmp 81) (.tmp 90) 56 rfl w.heap.size 3 ii _ 1 8 underlying56 i3 i4 i5 i6 rfl (by decide) (.slice d1 i d2) i (slV (a.take i)) rfl k1.o ⟨T.heap.size,0,none⟩ 1 1 [.int .i64 m] rfl rfl k2.o k3.o (by omega) (by unfold maxLen;omega) (by omega) d _ rfl ?_;intro g6 k6 w6 g3 d6 _ _;have d7:=a9.o.more (g:=g6) (cp:=k6) j4 D (by rw[<-H.o];exact f5.o _ _) b.o.mem.len b8.o (by rw[<-j7.o];exact g3) d6;have g4:=Kz d7.1;have g5:=d7.2;have kg:=(But.aj (S:=fun x=>(Value.slice d1 i d2).ownBlock=some x) b8.o).trans (.aQ d6 (fun _ h=>h));have n8:w6.cell? ⟨hb,3,none⟩=some (.slice (some ⟨A,0,none⟩) p p):=(kg.cell d5 (fun e=>by have r:=(a9.o.sl.lt _ e).1;have U:=b.o.mem.row.lt;rw[<-O.o] at U;omega)).trans g2;have n9:=OV d5 kg.size;have k4:Hid (w6.there A (j*3) 3):=(by rw[P.o];exact g5.row.there (o:=j*3) (m:=3) (by rw[<-H.o];omega));clear g3 d6 d7 g5 kg))
        have g7:World.setCells w6 A (j*3) (Array.toList #[.string ⟨#[]⟩,.int .i64 0,.int .i64 0])=w6.setCells c.bsb (a[i].1*3) (dD none):=by rw[P.o,d0.o];rfl
        rw[<-g7] at g4;clear g7;go_roundg (gk-1)
        case measure=>omega
        case rel=>exact⟨j+1,i+1,_,_,rfl,by go_num,by omega,.inr ⟨rfl,by omega⟩,g4⟩
      ·obtain⟨b9,hz⟩:=ag ((match x with|some e=>e.name|none=>(⟨#[]⟩:Qw)));have b4:wr.cell? ⟨A,k*3,none⟩=some (.string b9):=by
        have:=d 0 (.string b9) (by rw[hz];cases x <;> rfl);exact this
       have o0:(b9.toList == G.toList)=false:=by
        cases U:(b9.toList == G.toList)
        ·rfl
        ·have h3:=sU U;cases x with
         | none=>
          rw[<-h3,hz] at d3;exact Qi d3 (by decide)
         | some e=>
          rw[hz,v] at h3;exact Qi h3 (F.o.other b.o.live.bP D (by rw[<-d0.o];exact f9) I)
       clear d I Q C B a1 a2 J v hz d3;go_wp2_with fail
       go_region
       all_goals
        go_wp2
        go_roundg (gk-1)
        case measure=>omega
        case rel=>exact⟨k+1,f,_,_,rfl,by go_num,by omega,(by rcases b5 with⟨r,U⟩ | ⟨r,U⟩;exact .inl ⟨r,by omega⟩;exact .inr ⟨r,by omega⟩),Kz (M.o.kept (bB wr))⟩
     ·have o1:¬((k:Int)<(p:Int)):=by omega
      obtain rfl:i+1=f:=by rcases b5 with h | h <;> omega
      go_wp2
      go_roundg (l.length-(i+1))
      case measure=>omega
      case rel=>exact⟨i+1,d1,d2,rfl,by go_num,by omega,M⟩
   ·have o2:¬((i:Int)<(l.length:Int)):=by omega
    obtain rfl:l.length=i:=by omega
    have k7:a.take l.length=a:=PG (by omega);have hC:=f6.o;obtain⟨d8,g8,d9,e0,g9⟩:=hC;rw[k7] at d9 e0;have V:=F.o.left b.o.live;have h0:Hid (jX c (dones (Kk c.Kq) {S with busy:=dH S.busy a} (a.take 0)) wr):=⟨e6,b.o.mem.Ij d8 g8 (by rw[nE];exact b.o.mem.len) d9,V.1,b.o.cau,b.o.bud⟩;have c0:Hid (xE c.Kq (dones (Kk c.Kq) {S with busy:=dH S.busy a} (a.take 0)) S.slots.length (a.drop 0)):=V.2;have⟨Z,s⟩:=aD e0 g9;have a3:Hid (bv w wr):= .CB d8 (fun x Q=>aA Q b.o.mem.iq.type (by decide));clear d8 g8 d9 e0 g9 V;go_wp2
    go_loopg [10] l.length (fun gk k8 wr=>∃(i:Nat),k8= .int .i64 (i:Int)/\i+gk=l.length/\Hid (jX c (dones (Kk c.Kq) {S with busy:=dH S.busy a} (a.take i)) wr)/\Hid (xE c.Kq (dones (Kk c.Kq) {S with busy:=dH S.busy a} (a.take i)) S.slots.length (a.drop i))/\Hid (wr.ownsRow w.heap.size 3 1 (.slice L l.length R) l.length (slV a))/\Hid (wr.ownsRow w.heap.size 9 1 (.slice (some ⟨y,o,none⟩) l.length E) l.length (l.map Value.string))/\Hid (bv w wr))
    case atStart=>exact⟨0,rfl,by omega,h0,c0,Z,s,a3⟩
    case round=>
     clear h0 c0 Z s a3;obtain⟨i,rfl,o3,h1,c0,Z,s,a3⟩:=hrel;by_cases h2:i<l.length
     ·have j6:(i:Int)<(l.length:Int):=by omega
      have D:i<a.length:=by omega
      obtain⟨wi,rfl⟩:=ag wr;obtain⟨_,_,B,C⟩:=bM s.o;simp only[PO,true_and] at B;rw[<-B.1] at C;obtain⟨yb,yo,a7,a8,J⟩:=C i h2;simp only[PN,Qt,and_true] at a7;obtain⟨a1,a2⟩:=a7;rw[<-a1] at a8 J;rw[<-a2] at J;obtain⟨G,v⟩:=ag (a[i].2.name);have b7:wi.cell? ⟨y,o+i,none⟩=some (.string G):=by
       rw[J,v,<-F.o.name D];simp[List.getD,h2]
      obtain⟨m,N⟩:∃m:Int,m= (a[i].2.slot:Int):=⟨_,rfl⟩;have k9:∃sg,L=some ⟨sg,0,none⟩/\sg<wi.heap.size/\wi.cell? ⟨sg,i,none⟩=some (.int .i64 m):=by
       rcases Z.o.2 with⟨_,o4⟩|⟨g,o5,o6,e,_,hg,_⟩
       ·omega
       ·injection e with h4 e2 o7;have h:=Z.o.cells (g:=g) (by rw[h4];rfl) i (.int .i64 m) (by rw[N];simp[slV,D]);rw[PQ,PD] at h;exact⟨g,h4,aV hg,h⟩
      obtain⟨sg,rfl,l0,h5⟩:=k9;have hd:a.drop i=a[i] :: a.drop (i+1):=List.drop_eq_getElem_cons D;have V:=c0.o;rw[hd] at V;obtain⟨g1,h6,l1⟩:=V.2 a[i] (Po ..);obtain⟨Di,c1⟩:=h1.o;have h7:(dones (Kk c.Kq) {S with busy:=dH S.busy a} (a.take i)).slots=S.slots:=uR _ _ _;have l2:Hid (xE c.Kq (dones (Kk c.Kq) {S with busy:=dH S.busy a} (a.take (i+1))) S.slots.length (a.drop (i+1))):=by
       rw[Pb D,wX];exact V.next c1.live.bP.ok.asc
      have e1:=fun u (ku:K_ wi u)=>sK (j:=m) (c1.kept ku) HK.o (n:=G) (by rw[v];exact g1) (by rw[v];exact h6) (by rw[N,h7];exact⟨by omega,by omega⟩)
      rw[v,N,<-wX (Kk c.Kq) _ (a.take i) a[i],<-Pb D,<-v,<-N,<-O.o] at e1;have⟨l3,l4⟩:=aD e1 c1.mem;have l5:Hid (∀u,K_ wi u->u.cell? ⟨y,o+i,none⟩=some (.string G)/\u.cell? ⟨sg,i,none⟩=some (.int .i64 m)):=fun u ku=>⟨(ku.cell a8).trans b7,(ku.cell l0).trans h5⟩
      clear e1 c1 g1 h6 l1 V hd h5 N b7 C B a1 a2 J v h7;go_wp2
      refine aR 9 l5.o fun T z e3=>?_
      refine af 0 e3 ?_;refine af 4 e3 ?_;refine ae 8 e3 ?_;refine ax 9 (fun l6 hK=>?_);go_simp
      go_at_call 50
      refine (l3.o _ z).mono ?_;rintro e w7 ⟨rfl,h8,e4⟩;have l7:=Kz h8;have h9:=Kz ((But.aj z).trans e4);have l8:=Kz ((bv.aj z).trans ((l4.o.kept z).Ir (by rw[<-O.o];exact e4)));clear h8 e4 z;dsimp only;refine hK.out _ _ (fun h=>absurd rfl h) ?_;clear hK l6;try simp only[Act.put,upA,upB,upC]
      refine az ?_;go_wp2
      go_roundg (gk-1)
      case measure=>omega
      case rel=>
       have o8:hb<w.heap.size:=by rw[O.o];exact b.o.mem.row.lt
       exact⟨i+1,by go_num,by omega,l7,l2,Kz (h9.o.owns Z.o (fun x e e2=>by have:=(Z.o.lt x e).1;omega)),Kz (h9.o.owns s.o (fun x e e2=>by have:=(s.o.lt x e).1;omega)),Kz (a3.o.trans l8.o)⟩
     ·have o9:¬((i:Int)<(l.length:Int)):=by omega
      have i0:a.take i=a:=PG (by omega);have i1:=Kz (kH.Nr (W:=Kk c.Kq) (t:=t) a S F.o.asc F.o.mem);have e5:=h1.o;rw[i0] at e5;have i2:=Kz e5;clear e5 i0;by_cases p0:l.length=0
      ·have l9:¬((l.length:Int) > 0):=by omega
       have m0:Hid (¬∃(Y:Nat) (x:aX),S.busy[Y]? =some (some x)/\x.fin=t):=by
        rintro⟨Y,x,r⟩;have U:=(F.o.mem Y x).1 r;have h3:a=[]:=Pk.1 (by omega);rw[h3] at U;cases U
       go_wp2
       go_ret
       exact⟨_,Says.no m0.o,i1.o,i2.o,a3.o⟩
      ·have l9:((l.length:Int) > 0):=by omega
       have p1:0<l.length:=by omega
       have m1:Hid (∃(Y:Nat) (x:aX),S.busy[Y]? =some (some x)/\x.fin=t):=by
        have r:=F.o.at' (a[0]'(by omega)) (Pf _);exact⟨_,_,r⟩
       go_wp2
       go_ret
       exact⟨_,Says.yes m1.o,i1.o,i2.o,a3.o⟩
def SlK(Kq:List Qz)(S:aS):Prop:=∀s∈S.slots,(Kk Kq s.name).isSome=true/\0<=s.at'/\s.at'<=1000000
theorem j_.slk{Kq:List Qz}{A:aS}(h:j_ (Kk Kq) t S A):Ok8 (Kk Kq) S->0<=t/\t<=1000000->SlK Kq S->SlK Kq A:=by
 induction h with
 | stop=>exact fun _ _ h=>h
 | @go S S' k n hk hl hn _ ih=>
  intro a b c;refine ih ⟨a.asc,a.known⟩ b (fun s d=>?_);rcases Pe.1 d with g | g
  ·exact c s g
  ·rw[Pd] at g;subst g;obtain⟨r,e,_⟩:=hn.1.1;exact⟨a.known n r e,b⟩
section
variable {c : fD} {S : aS} {D : iy} {w : Qy}
theorem bi.Mr(h:bi c S D w){i:Nat}(hi:i<S.slots.length):∃g,D.sa=some ⟨g,0,none⟩/\g<w.heap.size/\w.cell? ⟨g,i*3,none⟩=some (.int .i64 S.slots[i].at')/\w.cell? ⟨g,i*3+1,none⟩=some (.int .i64 (S.slots[i].worker:Int))/\w.cell? ⟨g,i*3+2,none⟩=some (.string S.slots[i].name):=by
 rcases h.slt.2 with⟨_,d⟩|⟨g,n,p,e,_,f,_⟩
 ·rw[d] at hi;exact aB hi
 ·injection e with b q r;have k:S.slots.getD i aF.zero=S.slots[i]:=by simp[List.getD,hi]
  have a:∀j,j<3->∀u,S.slots[i].cells[j]? =some u->w.cell? ⟨g,i*3+j,none⟩=some u:=fun j l u m=>by
   have:=h.slt.cells (g:=g) (by rw[b];rfl) (i*3+j) u (by rw[ma S.slots i j hi l,k];exact m);rw[PQ,PD] at this;exact this
  exact⟨g,b,aV f,a 0 (by omega) _ rfl,a 1 (by omega) _ rfl,a 2 (by omega) _ rfl⟩
theorem bi.NU(h:bi c S D w){i:Nat}(hi:i<S.back.length):∃g,D.ba=some ⟨g,0,none⟩/\g<w.heap.size/\w.cell? ⟨g,i,none⟩=some (.int .i64 S.back[i]):=by
 rcases h.bak.2 with⟨_,b⟩|⟨g,f,j,e,_,d,_⟩
 ·rw[b] at hi;exact aB hi
 ·injection e with a k l;have:=h.bak.cells (g:=g) (by rw[a];rfl) i (.int .i64 S.back[i]) (by simp[hi]);rw[PQ,PD] at this;exact⟨g,a,aV d,this⟩
end
theorem pX :∀(l:List aF) (u:QA),u∈bI l->u.oneCell'=true
 | [],u,h=>by cases h
 | c :: r,u,h=>by
  simp only[bI,aF.cells,Pe,PS,PT,or_false] at h;rcases h with (rfl|rfl|rfl) | h
  ·rfl
  ·rfl
  ·rfl
  ·exact pX r u h
def NG(c:fD)(S:aS)(t:Int)(w w':Qy)(e:Ending):Prop:=
 ∃(ca:Qx) (cc:Nat) (ch:List aF) (p:Int),e= .returned (.slice ca ch.length cc)/\jW (Kk c.Kq) S.slots t p/\ChR S.slots S.back p ch/\ch.length<=S.slots.length/\w'.ownsRow w.heap.size 109 3 (.slice ca ch.length cc) ch.length (bI ch)/\K_ w w'
structure OA (S:aS) (i:Nat) (p:Int) (ch:List aF) (gk:Nat):Prop where
 low: -1<=p
 top:p<S.slots.length
 num:p+1=gk
 len:ch.length+gk<=S.slots.length
 way:∀l,ChR S.slots S.back p l->ChR S.slots S.back (i:Int) (l++ch)
theorem zx{c:fD}{D:iy}{w:Qy}(h:nA c S D w)(hk:m_ c)(f5:S.slots.length<=100000)(b0:SlK c.Kq S):
  Calls prog 26 #[.pointer (some ⟨c.hb,0,none⟩),.int .i64 t] w fun e w'=>NG c S t w w' e:=by
 obtain⟨is,d0,d1,d2,d3⟩:=aN Tryz.nJ;obtain⟨n,R⟩:=ag c.hb;have⟨v,T,HI,d4⟩:=oZ R hk h b0;have d5:S.back.length=S.slots.length:=h.live.bP.back;obtain⟨U,F⟩:=ag (w.alloc (.cells #[] 109));have V:K_ w U:=by rw[F];exact ak _ _
 have b1:Hid (U.ownsRow w.heap.size 109 3 (.slice (some ⟨w.heap.size,0,none⟩) 0 0) 0 (bI [])):=by
  rw[F];exact Pz w #[] 0 (OU _) (OW _) rfl
 rw[<-R];clear h hk R b0;go_enter func26,ntmps26
 go_upto_region 2 with fail
 rw[<-F];clear F;go_wp2
 go_loopg [5,6] S.slots.length (fun gk W x6 wr=>∃(i:Nat),W= .slice (some ⟨w.heap.size,0,none⟩) 0 0/\x6= .int .i64 (i:Int)/\i+gk=S.slots.length/\Hid (K_ U wr)/\Hid (∀s∈S.slots.take i,s.at'+aM (Kk c.Kq) s.name≠t))
 case atStart=>exact⟨0,rfl,rfl,by omega,K_.refl _,Kz (fun s d=>by simp at d)⟩
 case round=>
  obtain⟨i,rfl,rfl,f6,x,G⟩:=hrel;have j:=Kz (HI.o.kept (V.trans x.o));have H:=j.o.mem.at.2.2.2.2.1;rw[<-v.o] at H;have b2:n<wr.heap.size:=by rw[v.o];exact j.o.mem.row.lt
  by_cases I:i<S.slots.length;rotate_left
  ·have f7:¬((i:Int)<(S.slots.length:Int)):=by omega
   have d6:S.slots.take i=S.slots:=PG (by omega);have d7:=Kz (ai b1.o x.o);go_wp2
   go_ret
   exact⟨_,_,[], -1,rfl,.inl ⟨rfl,fun s d=>G.o s (by rw[d6];exact d)⟩,.stop (by decide),OW _,d7.o,V.trans x.o⟩
  have f8:(i:Int)<(S.slots.length:Int):=by omega
  obtain⟨X,Y,b3,y,Z,z⟩:=j.o.mem.Mr I;have J:=d4.o _ (Pf I);obtain⟨b4,nb,no,f9,ha,d8,a0,K⟩:=j.o.mem.nodeAt T.o J.1;have b5:0<=aM (Kk c.Kq) S.slots[i].name/\aM (Kk c.Kq) S.slots[i].name<=20:=by
   obtain⟨d9,hA⟩:=Ps.1 J.1;have q:=(T.o.ok _ d9 hA).1.1;unfold aM;rw[hA];simp only;omega
  obtain⟨at0,a1⟩:=ag (S.slots[i].at');obtain⟨nm,b6⟩:=ag (S.slots[i].name);obtain⟨A,a2⟩:=ag (aM (Kk c.Kq) S.slots[i].name);rw[<-a2] at a0 b5;rw[<-a1] at y J;rw[<-b6] at z K;have a3:=j.o.mem.at.1;rw[<-v.o,ha] at a3;rw[Y] at H;rw[ha] at K;have e0:nb<wr.heap.size:=OV d8 j.o.mem.kw.size;have L:Hid (∀u,K_ wr u->u.cell? ⟨n,4,none⟩=some (.slice (some ⟨X,0,none⟩) S.slots.length D.sc)/\u.cell? ⟨n,0,none⟩=some (.slice (some ⟨nb,no,none⟩) c.Kq.length c.cap)/\u.cell? ⟨X,i*3,none⟩=some (.int .i64 at0)/\u.cell? ⟨X,i*3+2,none⟩=some (.string nm)/\u.cell? ⟨nb,no+b4*3+1,none⟩=some (.int .i64 A)):=fun u k=>⟨(k.cell b2).trans H,(k.cell b2).trans a3,(k.cell b3).trans y,(k.cell b3).trans z,(k.cell e0).trans a0⟩
  have b7:=Kz (fun u (k:K_ wr u)=>K u (j.o.mem.kw.trans k));have g0:(b4:Int)<(c.Kq.length:Int):=by omega
  have g1:c.Kq.length<=60:=T.o.len;have e2:IntKind.i64.wrap (at0+A)=at0+A:=dK (by omega) (by omega);have b8:Hid (S.slots[i].at'+aM (Kk c.Kq) S.slots[i].name=at0+A):=by show _=_;rw[a1,a2]
  have g2:=Kz Y;clear y Z z a0 K ha a3 J b5 a1 b6 a2 Y;go_wp2
  refine aR 32 L.o fun wd KD b=>?_
  refine af 0 b ?_;refine af 4 b ?_;refine af 8 b ?_;refine af 12 b ?_;refine af 16 b ?_;refine af 20 b ?_;refine ae 24 b ?_;refine ae 31 b ?_;refine ax 25 (fun a4 B=>?_);go_simp
  go_at_call 55
  refine (b7.o _ KD).mono ?_;rintro e w5 ⟨rfl,k5⟩;have M:=KD.trans k5;clear k5 KD;dsimp only;refine B.out _ _ (fun _=>L.o _ M) ?_;clear B a4 b;try simp only[Act.put,upA,upB,upC]
  have b:=L.o _ M;refine af 26 b ?_;refine ae 30 b ?_;refine ax 32 (fun a4 B=>?_);go_simp
  refine B.out _ _ (fun h=>Qi rfl h) ?_;clear B a4;try simp only[Act.put,upA,upB,upC]
  refine az ?_;have g3:=b.1;clear b;cases b9:(at0+A == t)
  ·go_wp2
   go_roundg (gk-1)
   case measure=>omega
   case rel=>
    refine⟨i+1,rfl,by go_num,by omega,Kz (x.o.trans M),Kz (fun s d=>?_)⟩;rw[Pb I] at d;rcases Pe.1 d with a5 | a5
    ·exact G.o s a5
    ·rw[Pd.1 a5,b8.o];simpa using b9
  ·have e3:Hid (jW (Kk c.Kq) S.slots t (i:Int)):=by
    refine .inr ⟨i,S.slots[i],rfl,OZ I, ?_,fun c0 N hj hx=>G.o N ?_⟩
    ·rw[b8.o];simpa using b9
    ·obtain⟨g4,e⟩:=O_.1 hx;have q:c0<(S.slots.take i).length:=by rw[Pt];omega
     have l:(S.slots.take i)[c0]=N:=by rw[PI];exact e
     rw[<-l];exact Pf q
   have c1:=Kz (x.o.trans M);have e4:=Kz (ai b1.o c1.o);clear L b7 H G e2;go_wp2
   go_loopg [5,7] (i+1) (fun gk W x7 wr=>∃(p:Int) (a:List aF) (O:Qx) (P:Nat),W= .slice O a.length P/\x7= .int .i64 p/\Hid (OA S i p a gk)/\Hid (wr.ownsRow w.heap.size 109 3 (.slice O a.length P) a.length (bI a))/\Hid (K_ w wr))
   case atStart=>exact⟨(i:Int),[],_,_,rfl,rfl,Kz ⟨by omega,by omega,by omega,by simp;omega,fun c2 hl=>by rw[List.append_nil];exact hl⟩,e4,Kz (V.trans c1.o)⟩
   case round=>
    obtain⟨p,a,O,P,rfl,rfl,g,HO,C⟩:=hrel;have m:=Kz (HI.o.kept C.o);by_cases hp:0<=p
    ·obtain⟨f,rfl⟩:∃f:Nat,p=f:=⟨p.toNat,by omega⟩;have c3:f<S.slots.length:=by have:=g.o.top;omega
     have g5:(f:Int)<(S.slots.length:Int):=by omega
     obtain⟨g6,c4,g7,y,Z,z⟩:=m.o.mem.Mr c3;obtain⟨bg,c5,c6,q3⟩:=m.o.mem.NU (i:=f) (by omega);have a6:=m.o.live.bP.prev f S.back[f] (OZ (by omega));have n4:=m.o.mem.at.2.2.2.2.1;have n5:=m.o.mem.at.2.2.2.2.2.1;rw[<-v.o] at n4 n5;rw[c4] at n4;rw[c5,d5] at n5;have c7:n<wr.heap.size:=by rw[v.o];exact m.o.mem.row.lt
     obtain⟨s,d⟩:=ag (S.slots[f]);obtain⟨r,a7⟩:=ag (S.back[f]);rw[<-d] at y Z z;rw[<-a7] at q3 a6;have e5:Hid (OA S i r (s :: a) (r+1).toNat):=by
      have q:=g.o;refine⟨a6.1,by omega,by omega, ?_,fun c2 hl=>?_⟩
      ·have l:=q.len;have h3:=q.num;simp only[PP];omega
      ·have l:=q.way (c2++ [s]) (.go (O_.2 ⟨c3,d.symm⟩) (O_.2 ⟨by omega,a7.symm⟩) hl);rw[List.append_assoc] at l;exact l
     have e6:(r+1).toNat<gk:=by have h3:=g.o.num;omega
     have c8:a.length<=100000:=by have l:=g.o.len;omega
     have Q:Hid (K_ wr (wr.alloc (.cells #[.int .i64 s.at',.int .i64 (s.worker:Int),.string s.name] 109))):=ak _ _;have c9:Hid ((wr.alloc (.cells #[.int .i64 s.at',.int .i64 (s.worker:Int),.string s.name] 109)).ownsRow w.heap.size 109 3 (.slice (some ⟨wr.heap.size,0,none⟩) 1 1) 1 [.int .i64 s.at',.int .i64 (s.worker:Int),.string s.name]):=⟨rfl,.inr ⟨wr.heap.size,1,_,rfl,C.o.size,heap_alloc_new wr _,OU _,by unfold maxLen;omega,rfl,rfl⟩⟩;have e7:=Kz (ai HO.o Q.o);have e8:w.heap.size<=(wr.alloc (.cells #[.int .i64 s.at',.int .i64 (s.worker:Int),.string s.name] 109)).heap.size:=(C.o.trans Q.o).size;clear d a7 a6 g m c4 c5;go_wp2_with (at_builtin;refine rJ rfl (.tmp 68) (.tmp 69) 28 rfl w.heap.size 109 is _ 3 32 underlying28 d0 d1 d2 d3 rfl (by decide) (.slice (some ⟨wr.heap.size,0,none⟩) 1 1) 1 [.int .i64 s.at',.int .i64 (s.worker:Int),.string s.name] rfl c9.o w.heap.size (.slice O a.length P) a.length (bI a) rfl e7.o (pX a) (by unfold maxLen;omega) (by omega) e8 ?_;intro v6 w6 a8 a9 e9;have K6:K_ w w6:=aC (C.o.trans Q.o) (OU _) c9.o a9;have E:=(But.aj (S:=fun N=>(Value.slice (some (⟨wr.heap.size,0,none⟩:Addr)) 1 1).ownBlock=some N) Q.o).trans (.aQ a9 (fun _ h=>h));obtain⟨f0,f1,rfl⟩:=aG a8;have g8:w6.cell? ⟨n,5,none⟩=some (.slice (some ⟨bg,0,none⟩) S.slots.length D.bc):=(E.cell c7 (fun e=>by injection e with e1;exact Qi e1 (by show¬wr.heap.size=n;omega))).trans n5;have g9:w6.cell? ⟨bg,f,none⟩=some (.int .i64 r):=(E.cell c6 (fun e=>by injection e with e1;exact Qi e1 (by show¬wr.heap.size=bg;omega))).trans q3;have f2:=Kz a8;have h0:=OV c7 E.size;have h1:=OV c6 E.size;have f3:=Kz K6;clear a8 a9 e9 E K6)
     go_roundg (r+1).toNat
     case measure=>exact e6
     case rel=>exact⟨r,s :: a,f0,f1,by rw[PP,Nat.add_comm],rfl,e5,Kz (by rw[PP,Nat.add_comm];exact f2.o),f3⟩
    ·have h2:p= -1:=by have:=g.o.low;omega
     have h4:¬(p≥0):=by omega
     have f4:Hid (ChR S.slots S.back (i:Int) a):=g.o.way [] (.stop (by omega));have c8:a.length<=S.slots.length:=by have l:=g.o.len;omega
     go_wp2
     go_ret
     exact⟨_,_,a,(i:Int),rfl,e3.o,f4.o,c8,HO.o,C.o⟩
