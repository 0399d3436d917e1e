import Derived.Test.YtgnkgfjmbmcfcaaGreatDoorKWCheck5
import Derived.Test.YtgnkgfjmbmcfcaaGreatDoorKIter
set_option maxRecDepth 100000
set_option maxHeartbeats 25600000
namespace Go.Proofs.YtgnkgfjmbmcfcaaGreatDoor
open Go.RowKit Go.Proofs.Tryz
theorem KS{W:aZ}{σ:Env}(c:yn σ){n:Qw}{f:Bool}{t:Qw}{ok:Bool}(h:bE W σ n=if ok=true then some ⟨f,t⟩ else none)(d:ok=false->∃r,σ n=some r/\f=r.fail/\t=r.text):vT W σ n= ⟨n,ok,f,t⟩:=by
 unfold vT;cases ok
 ·rw[h];obtain⟨r,a,e,g⟩:=d rfl;have i:r.over=false:=by
   unfold bE at h;cases b:W n with
   | none=>rw[b] at h;cases h
   | some A=>
    rw[b,a] at h;simp only at h;cases j:r.over
    ·rfl
    ·rw[j] at h;cases h
  obtain⟨k,l⟩:=c n r a i;rw[e,g,k,l]
  rfl
 ·rw[h]
  rfl
section
variable {G : cO} {Kq : List Qz} {wz w w' : Qy} {bb : Nat} {a : Qx} {cap : Nat} {rd : Qx} {rn rc : Nat} {mb mx : Nat} {ts : List Zk} {d : Qx} {dc : Nat} {f : Qw -> QA} {ws : Qw -> List Nat}
theorem zD(J:BM G Kq wz w bb a cap rd rn rc mb mx ts d dc f ws)(K:yn (Qq (Qj ts)))(hl:ts.length<=1048576)(L:Qx)(a4:Nat)(b:List Qw)(c2:b.length<=1000)(M:∀n∈b,n.size<=1000/\((∃t∈ts,t.r.name=n)\/Kk Kq n=none))(B:∀n∈b,(vT (Kk Kq) (Qq (Qj ts)) n).text.size<=1048576)(N:Strs w L b):
  Calls prog 78 #[.slice L b.length a4,.func (.func 79) #[.pointer (some ⟨bb,0,none⟩)] #[]] w fun e w'=>∃a',e= .returned (.slice a' b.length b.length)/\fI w' w.heap.size w'.heap.size a' (b.map (vT (Kk Kq) (Qq (Qj ts))))/\K_ w w':=by
 obtain⟨R,C⟩:=ag (vT (Kk Kq) (Qq (Qj ts)));rw[<-C] at B⊢;have⟨O,HB,a5,D,a6⟩:=dX C J K M B;have HR:=Kz N;clear C J K M B N;go_enter func78,ntmps78
 go_wp2
 go_loopw [5,12] (fun x5 E wr=>∃(k:Nat) (l:Qx) (p:Nat),k<=b.length/\E= .int .i64 (k:Int)/\x5= .slice l k p/\Hid (wr.ownsRow w.heap.size 116 4 (.slice l k p) k (bQ ((b.take k).map R)))/\K_ w wr) (fun _ E _=>b.length-(intOf E).toNat)
 case atStart=>exact⟨0,none,0,OW _,rfl,rfl,Kz (PU _ _ _ _),K_.refl _⟩
 case round=>
  obtain⟨k,l,p,hk,rfl,rfl,P,m⟩:=hrel;by_cases q:k<b.length;rotate_left
  ·have c3:¬((k:Int)<(b.length:Int)):=by omega
   have v:k=b.length:=by omega
   have a7:Hid (iY wr l (b.map R)):=by
    have Q:=P.o;rw[v,PE] at Q;obtain⟨c4,c5,S,h9⟩:=yF Q;simp only[PO] at S;rw[S.1];exact h9
   have T:(b.map R).length=k:=by rw[Qc];exact v.symm
   have⟨a8,a9⟩:=aD T v;clear q v T;go_wp2_with fail
   have s:=Dy wr l p (b.map R) (by rw[Qc];omega) (fun c s=>by
    obtain⟨n,U,rfl⟩:=Pv.1 s;have h1:=(D.o n U).1;refine⟨?_,a6.o n U⟩;have:(R n).name=n:=by rw[O.o];unfold vT;cases bE (Kk Kq) (Qq (Qj ts)) n <;> rfl
    rw[this];omega) a7.o
   rw[a8.o] at s;refine s.mono ?_;rintro e w2 ⟨a2,rfl,V,k2⟩;have HI:=Kz V;clear V s;go_wp2
   go_ret
   exact⟨a2,by rw[a9.o];rfl,HI.o.mono m.size (OU _),m.trans k2⟩
  have c6:(k:Int)<(b.length:Int):=by omega
  obtain⟨sb,so,e1,b0,W⟩:=(HR.o.kept m) k q;subst e1;obtain⟨g,F⟩:=ag (b.getD k ByteArray.empty);rw[<-F] at W;have H:b[k]=g:=by rw[F];simp[List.getD,q]
  have X:g∈b:=by rw[<-H];exact Pf q
  have⟨b1,Y⟩:=aD H X;clear F H X;go_wp2_with fail
  refine (nD (HB.o.kept m) g hl (D.o g Y.o).1 (D.o g Y.o).2).mono ?_;rintro e j ⟨⟨h,i,ok,rfl,Z,a0⟩,x⟩;have b2:Hid (R g= ⟨g,ok,h,i⟩):=by rw[O.o];exact KS a5.o Z a0
  have y:K_ j ((j.alloc (.cells #[.bool h,.string i] 112)).alloc (.cells #[.string g,.bool ok,.bool h,.string i] 116)):=(ak _ _).alloc _;have r0:=X_ j #[.bool h,.string i] 112 0 _ rfl;have r1:=X_ j #[.bool h,.string i] 112 1 _ rfl;simp only[PD] at r0 r1;have a1:=Kz (ai P.o (x.trans y));have b3:w.heap.size<=((j.alloc (.cells #[.bool h,.string i] 112)).alloc (.cells #[.string g,.bool ok,.bool h,.string i] 116)).heap.size:=(m.trans (x.trans y)).size;have b4:Hid (∀z u,([.string g,.bool ok,.bool h,.string i]:List QA)[z]? =some u->((j.alloc (.cells #[.bool h,.string i] 112)).alloc (.cells #[.string g,.bool ok,.bool h,.string i] 116)).cell? ((⟨j.heap.size+1,0,none⟩:Addr).add z)=some u):=fun z u A=>by have:=X_ (j.alloc (.cells #[.bool h,.string i] 112)) #[.string g,.bool ok,.bool h,.string i] 116 z u A;rw[PL] at this;rw[PQ];exact this
  have b5:Hid (∀u∈([.string g,.bool ok,.bool h,.string i]:List QA),u.oneCell'=true):=fun u A=>by simp only[PS,PT,or_false] at A;rcases A with rfl | rfl | rfl | rfl <;> rfl
  have KK:=Kz (m.trans (x.trans y));obtain⟨ic,b6,b7,b8,b9⟩:=aN Tryz.rP;clear x y Z a0 W b0;go_wp2_with (at_builtin;refine wpList_append_own _ rfl (.tmp 22) (.tmp 30) 29 rfl w.heap.size 116 ic _ 4 40 underlying29 b6 b7 b8 b9 rfl (by decide) (.slice l k p) k (bQ ((b.take k).map R)) rfl a1.o ⟨j.heap.size+1,0,none⟩ 1 1 [.string g,.bool ok,.bool h,.string i] rfl rfl b4.o b5.o (by unfold maxLen;omega) (by omega) b3 ?_;intro v' w6 I a3 _;have KP:=aC KK.out (OU _) a1.o a3;have HP:=Kz I;obtain⟨c0,c1,rfl⟩:=aG I;clear I a3)
  go_roundw
  case rel=>
   refine⟨k+1,c0,c1,by omega,by go_num,rfl,Kz ?_,KP⟩;rw[Pb q,Qm,List.map_cons,List.map_nil,b1.o,b2.o,pq];exact HP.o
  case measure=>simp[intOf];omega
end
def BJ(ts:List Zk)(ws:Qw->List Nat)(x s:Qw):Prop:=∃t∈ts,t.r.name=x/\t.tb∈ws s
structure Ea (ts:List Zk) (ws:Qw->List Nat) (M:Nat) (P:Qw->Prop) (ol:Qw->List Qw):Prop where
 iff:∀x s,s∈ol x↔P s/\BJ ts ws x s
 nd:∀x,(ol x).Nodup
 len:∀x,(ol x).length<=M
variable {ws : Qw -> List Nat} {P : Qw -> Prop} {ts : List Zk}
theorem Ea.start(h:∀s,¬P s):Ea ts ws 0 P (fun _=>[]):=
 ⟨fun x s=>⟨fun e=>(by cases e),fun e=>(h s e.1).elim⟩,fun _=>List.nodup_nil,fun _=>OU _⟩
structure CR (ts:List Zk) (ws:Qw->List Nat) (M:Nat) (P:Qw->Prop) (s:Qw) (k:Nat) (ol:Qw->List Qw):Prop where
 iff:∀x s',s'∈ol x↔(P s'/\BJ ts ws x s')\/(s'=s/\∃t∈ts,t.r.name=x/\t.tb∈(ws s).take k)
 nd:∀x,(ol x).Nodup
 len:∀x,(ol x).length<=M
variable {ol : Qw -> List Qw}
theorem Ea.enter{M:Nat}(h:Ea ts ws M P ol)(s:Qw):CR ts ws M P s 0 ol:=
 ⟨fun x d=>by rw[h.iff];simp,h.nd,h.len⟩
variable {s : Qw}
theorem CR.leave{M:Nat}{Q:Qw->Prop}{k:Nat}(h:CR ts ws M P s k ol)(d:(ws s).length<=k)(e:∀c,Q c↔P c\/c=s):Ea ts ws M Q ol:=
 ⟨fun x c=>by
  rw[h.iff,e,PG d];constructor
  ·rintro (⟨a,b⟩|⟨a,b⟩)
   ·exact⟨.inl a,b⟩
   ·subst a;exact⟨.inr rfl,b⟩
  ·rintro⟨a|a,b⟩
   ·exact .inl ⟨a,b⟩
   ·subst a;exact .inr ⟨rfl,b⟩,h.nd,h.len⟩
theorem CR.put{M:Nat}{k:Nat}(h:CR ts ws M P s k ol)(E:¬P s)(l:dB (Qj ts))(F:(ts.map (·.tb)).Nodup)(G:(ws s).Nodup){u:Zk}(m:u∈ts)(H:(ws s)[k]? =some u.tb):
  CR ts ws (M+1) P s (k+1) (fun n=>if n=u.r.name then ol u.r.name++ [s] else ol n):=by
 obtain⟨v,w⟩:=O_.1 H;have y:(ws s).take (k+1)= (ws s).take k++ [u.tb]:=by rw[Pb v,w]
 have one:∀t∈ts,t.r.name=u.r.name->t=u:=fun t z e=>by
  have a:=bU l (PV (f:=fun t:Zk=>t.r) z);have d:=bU l (PV (f:=fun t:Zk=>t.r) m);rw[e,d] at a;obtain⟨i,A,rfl⟩:=Ph z;obtain⟨p,B,rfl⟩:=Ph m;rcases Qf i p with j | j | j
  ·have:=Pg.1 l i p (by simpa[Qj] using A) (by simpa[Qj] using B) j;simp only[Qj,List.getElem_map] at this;exact Qi e (fE this)
  ·subst j;rfl
  ·have:=Pg.1 l p i (by simpa[Qj] using B) (by simpa[Qj] using A) j;simp only[Qj,List.getElem_map] at this;exact Qi e.symm (fE this)
 have I:u.tb∉(ws s).take k:=fun h=>by
  obtain⟨q,J,e⟩:=Ph h;rw[Pt] at J;rw[PI] at e;have:=Pg.1 G q k (by omega) v (by omega);exact this (e.trans w.symm)
 refine⟨fun x L=>?_,fun x=>?_,fun x=>?_⟩
 ·by_cases e:x=u.r.name
  ·simp only[Qg e];subst e;rw[Pe,Pd,h.iff,y];constructor
   ·rintro ((a|⟨a,t,d,g,c⟩) | a)
    ·exact .inl a
    ·exact .inr ⟨a,t,d,g,Pe.2 (.inl c)⟩
    ·exact .inr ⟨a,u,m,rfl,Pe.2 (.inr (by simp))⟩
   ·rintro (a|⟨a,t,d,g,c⟩)
    ·exact .inl (.inl a)
    ·exact .inr a
  ·simp only[Qh e];rw[h.iff,y];constructor
   ·rintro (a|⟨a,t,d,g,c⟩)
    ·exact .inl a
    ·exact .inr ⟨a,t,d,g,Pe.2 (.inl c)⟩
   ·rintro (a|⟨a,t,d,g,c⟩)
    ·exact .inl a
    ·rcases Pe.1 c with c|c
     ·exact .inr ⟨a,t,d,g,c⟩
     ·rw[Pd] at c;have:=ru F d m c;rw[this] at g;exact Qi g.symm e
 ·by_cases e:x=u.r.name
  ·simp only[Qg e];rw[List.nodup_append];refine⟨h.nd _,by simp,fun N C b D K=>?_⟩;rw[Pd] at D;rw[K,D,h.iff] at C;rcases C with⟨a,_⟩ | ⟨_,t,d,g,c⟩
   ·exact E a
   ·rw[one t d g] at c;exact I c
  ·simp only[Qh e];exact h.nd x
 ·by_cases e:x=u.r.name
  ·simp only[Qg e];rw[PM];have:=h.len u.r.name;show _+1<=M+1;omega
  ·simp only[Qh e];have:=h.len x;omega
variable {left : Lit -> Bool} {cnt : Nat}
theorem yg{H:Type}{P:Program}{k:TypeId}{a:QA->Option (DataW H×List MemPlace)}{w w':Qy}{b r n:Nat}{D:DataW H}{S:Nat->Prop}(h:w.ranges P k a b r n D left cnt)(q:But S w w')(e:¬S b)(f:¬S r):w'.ranges P k a b r n D left cnt:=by
 obtain⟨g,i,j,l,m,c,p,s,t,d,v⟩:=h;exact⟨g,i,j,l,m,(q.block b (aV c) e).trans c,p,s,t,(q.block r (aV d) f).trans d,v⟩
theorem vL{H:Type}{P:Program}{k:TypeId}{a:QA->Option (DataW H×List MemPlace)}{w:Qy}{b r n:Nat}{D:DataW H}(h:w.ranges P k a b r n D left cnt){t:TypeId}:¬bZ w r t:=by
 obtain⟨d,f,g,i,j,_,_,_,_,c,_⟩:=h;rintro⟨l,m,e⟩;rw[c] at e;cases e
theorem Fp{H:Type}{P:Program}{k:TypeId}{a:QA->Option (DataW H×List MemPlace)}{w:Qy}{b r n:Nat}{D:DataW H}(h:w.ranges P k a b r n D left cnt){t:TypeId}:¬bZ w b t:=by
 obtain⟨d,f,g,i,j,c,_⟩:=h;rintro⟨l,m,e⟩;rw[c] at e;cases e
theorem BS.OJ{Kq:List Qz}(h:BS Kq ts ws)(e:a_ (Kk Kq)){t:Zk}(b:t∈ts)(f:t.tb∈ws s):1<=s.size/\s.size<=20:=by
 have a:=(h.wt s t b).1 f;obtain⟨A,c,g,i⟩:=(h.good.good t.r (PV b)).act;unfold pend at a
 split at a
 ·cases a
 ·rw[c] at a;have d:=(jM (e _ _ c).1 g i).2 s (List.mem_filter.1 a).1;exact⟨d.1,d.2.1⟩
theorem JP{a:Qw}:(bT a).sameKey (bT s)=true↔a=s:=by
 constructor
 ·intro h;by_cases e:a=s
  ·exact e
  ·rw[Maps.sameKey_ne (gH e)] at h;cases h
 ·rintro rfl;simp[bT,Lit.sameKey]
def Nz(ts:List Zk)(ws:Qw->List Nat)(w w':Qy)(e:Ending):Prop:=
 ∃mo M g ol,e= .returned (.map (some mo))/\mI w' w.heap.size mo M g ol/\Ea ts ws M (fun _=>True) ol/\M<=600000/\K_ w w'
section
variable {G : cO} {Kq : List Qz} {wz w w' : Qy} {bb : Nat} {a : Qx} {cap : Nat} {rd : Qx} {rn rc : Nat} {mb mx : Nat} {ts : List Zk} {d : Qx} {dc : Nat} {f : Qw -> QA} {ws : Qw -> List Nat}
theorem IG(L:BM G Kq wz w bb a cap rd rn rc mb mx ts d dc f ws)(hS:BS Kq ts ws)(c3:a_ (Kk Kq))(h1:mx<=9000)(h2:ts.length<=60):
  Calls prog 84 #[.pointer (some ⟨bb,0,none⟩)] w fun e w'=>Nz ts ws w w' e:=by
 obtain⟨U,D,hN,V,hf⟩:=L.map;have h3:=V.size_le;obtain⟨C,N⟩:=ag (w.alloc (.map #[] 0));have O:K_ w C:=by rw[N];exact ak _ _
 have c4:Hid (mI C w.heap.size w.heap.size 0 (fun _=>.slice none 0 0) (fun _=>[])):=by rw[N];exact mI.made (OU _)
 have zM:C.heap.size=w.heap.size+1:=by rw[N];simp
 have HM:=Kz (iB (S:=fun _=>False) V (But.aj O) id);have e5:C.cell? ⟨bb,5,none⟩=some (.map (some mb)):=(L.kept O).c5;have bz:bb<C.heap.size:=(L.kept O).row.lt;have h5:mb<w.heap.size:=V.lt;have⟨H,P,HF⟩:=bA L hS hf;clear L hS V hf;have e6:(Instr.makeMap 157 none).run prog w= .ok (.map (some w.heap.size)) (w.alloc (.map #[] 0)):=rfl;go_enter func84,ntmps84
 go_upto_region 2 with fail
 clear e6;rw[<-N];clear N;go_wp2_with (first | (at_range;refine wpList_range_own _ rfl _ 122 rfl 9 123 Tryz.keyed underlying122 asIs mb U D rfl HM.o ?_;intro w0 a6 a7 c5))
 go_frame
 obtain⟨t,c6⟩:=ag C.heap.size;rw[<-c6] at a6 c5⊢;have K0:K_ w w0:=(But.aQ (S:=fun _=>False) a7 (fun b e=>by cases e)).kept O (fun b e=>e.elim);have c7:K_ C w0:=(But.aQ (S:=fun _=>False) a7 (fun b e=>by cases e)).kept (K_.refl _) (fun b e=>e.elim);have W:=Kz (c4.o.kept c7);obtain⟨v,X⟩:=ag w.heap.size;have W:Hid (mI w0 w.heap.size v 0 (fun _=>.slice none 0 0) (fun _=>[])):=by rw[X];exact W
 have h6:v<t:=by omega
 have h7:w.heap.size<t:=by omega
 rw[<-X];have c8:Hid (w.heap.size<=v):=Pw X.symm;clear X c4 c7 a7 c5 e5 c6 zM O HM;go_loopw [4] (fun _ wr=>∃(left:Lit->Bool) (Y M:Nat) (g:Qw->QA) (j:Qw->List Qw),wr.ranges prog 9 asIs mb t U D left Y/\M+60*Y<=600000/\Hid (mI wr w.heap.size v M g j)/\Hid (Ea ts ws M (fun s=>Maps.has D (bT s)=true/\left (bT s)=false) j)/\K_ w wr) (fun _ wr=>wr.rangeLeft mb t)
 case atStart=>exact⟨_,_,0,_,_,a6,by omega,W,Kz (Ea.start fun s h=>by have k:=h.1;have n:=h.2;rw[k] at n;cases n),K0⟩
 case round=>
  clear W K0 a6;obtain⟨left,Y,M,g,j,a8,h8,p,Q,Kr⟩:=hrel;go_wp2_with (first | (at_next;refine wpList_next_ranges (α:=Qw) (β:=QA) _ rfl _ rfl 9 Tryz.keyed asIs Value.string id (fun h9 kl hk=>by obtain⟨x,I,_⟩:=Maps.keyOf_str underlying9 hk;exact⟨_,I⟩) (fun e7 e8 R=>⟨e7,rfl⟩) mb t U D left Y rfl a8 ?_ ?_))
  ·intro c9 e9;go_wp2
   go_ret
   refine⟨v,M,g,j,rfl,p.o,⟨fun x s=>?_,Q.o.nd,Q.o.len⟩,by omega,Kr⟩;rw[Q.o.iff];refine⟨fun h=>⟨trivial,h.2⟩,fun h=>⟨⟨?_,e9 _⟩,h.2⟩⟩;obtain⟨i0,ht,_,a9⟩:=h.2;cases Z:Maps.has D (bT s)
   ·have a0:=(P.o.OJ c3 ht a9).2;have k:=HF.o s (by unfold maxLen;omega);rw[Maps.atKey_of_not_has Z] at k;have n:f s= .slice none 0 0:=by injection k with k;exact k.symm
    have a1:=H.o.iU s;rw[n] at a1;rcases a1.2 with⟨_,h4⟩|⟨_,_,_,h4,_⟩
    ·rw[Pk.1 h4] at a9;cases a9
    ·cases h4
   ·rfl
  ·intro s c kl yd yp w1 b0 d0 d1 R b1 f0 f1 b2 f2 b3;have a0:s.size<=maxLen/\kl=bT s:=by
    obtain⟨x',e1,e2,f3⟩:=Maps.keyOf_str underlying9 d0;unfold encStr at e1;injection e1 with e1;subst e1;exact⟨by show x'.toArray.size<=maxLen;simpa using f3,by rw[e2];unfold bT;simp⟩
   obtain⟨a0,rfl⟩:=a0;have a2:c=f s:=by
    have k:=b1 (.held (.slice none 0 0));rw[HF.o s a0] at k;unfold asIs at R;simp only[PN,Prod.mk.injEq] at R;rw[<-R.1] at k;injection k with k;exact k.symm
   obtain⟨ua,uc,i⟩:=aG (H.o.iU s);rw[a2,i] at b3;have Z:Maps.has D (bT s)=true:=Maps.has_true_of_atKey b1;have K1:K_ w w1:=(But.aQ (S:=fun b=>b=t) b2 (fun b e=>(PW e).symm)).kept Kr (fun b e=>by rw[e];omega);have d2:=Kz (p.o.but (But.aQ (S:=fun b=>b=t) b2 (fun b e=>(PW e).symm)) (by omega) (fun s' b e e2=>by rw[e2] at e;exact vL a8 (Y_ (p.o.row s') e)));have⟨Hu,i1,f4,f5⟩:=oZ i a2 d1 Z;have f6:=P.o.NV s;have d3:=Kz (Q.o.enter s);rw[a2,i];clear i a2 d1 Z R b1 d0 b2 f2 p;obtain⟨q,hn⟩:=ag ((ws s).length);rw[<-hn] at b3 f6⊢;have Hn:=Kz hn;clear hn;go_wp2_with fail
   clear b3;go_loopw [21] (fun xi wr=>∃(l M:Nat) (g:Qw->QA) (j:Qw->List Qw),l<=q/\xi= .int .i64 (l:Int)/\wr.ranges prog 9 asIs mb t U D (fun z=>left z && !z.sameKey (bT s)) b0/\M+ (q-l)+60*b0<=600000/\Hid (mI wr w.heap.size v M g j)/\Hid (CR ts ws M (fun s=>Maps.has D (bT s)=true/\left (bT s)=false) s l j)/\K_ w wr) (fun xi _=>q-(intOf xi).toNat)
   case atStart=>exact⟨0,M,g,j,OW _,rfl,f0,by omega,d2,d3,K1⟩
   case round=>
    clear d2 d3 K1 Q;obtain⟨l,M,g,j,hk,rfl,b4,i2,p,HJ,E⟩:=hrel;by_cases i3:l<q
    ·obtain⟨m,a3⟩:∃m,(ws s)[l]? =some m:=⟨_,OZ (by have:=Hn.o;omega)⟩;obtain⟨u,i,a4⟩:=P.o.ww s m (Pj a3);have b5:=H.o.kept E;have hT:=b5.fu u i;have b6:=b5.iU s;rw[Hu.o,<-Hn.o] at b6;obtain⟨b,o,rfl,hb,d4⟩:=dO b6 l (by simp;have:=Hn.o;omega);have c0:wr.cell? ⟨b,o+l,none⟩=some (.pointer (some ⟨m,0,none⟩)):=by rw[d4 l (xH m) (by simp[a3])];rfl
     obtain⟨x,I⟩:=ag u.r.name;have n0:wr.cell? ⟨m,0,none⟩=some (.string x):=by rw[<-a4,I];exact hT.rng 0 _ rfl
     have d5:m<w.heap.size:=by rw[<-a4];exact (H.o.fu u i).row.lt
     have f7:m<wr.heap.size:=OV d5 E.size;have b7:x.size<=maxLen:=by
      obtain⟨i4,hA,_⟩:=(P.o.good.good u.r (PV i)).act;have:=(c3 _ _ hA).2.2.1;rw[I];unfold maxLen;omega
     obtain⟨va,vc,hg⟩:=aG (p.o.row x);have Hg:=Kz hg;have b8:Hid (∀w',K_ wr w'->w'.cell? ⟨m,0,none⟩=some (.string x)/\(Instr.lookup 157 (.map (some v)) (.string x) false).run prog w'= .ok (.slice va (j x).length vc) w'):=fun w' K=>⟨(K.cell f7).trans n0,by rw[<-Hg.o];exact (p.o.kept K).look b7⟩
     have i5:=HJ.o.len x;have f8:Hid (CR ts ws (M+1) (fun s=>Maps.has D (bT s)=true/\left (bT s)=false) s (l+1) (fun q=>if q=x then j x++ [s] else j q)):=by
      rw[I];exact HJ.o.put (fun h=>by rw[f4.o] at h;exact Qi h.2 (by simp)) H.o.asc H.o.tbs (P.o.wn s) i (by rw[a4];exact a3)
     obtain⟨ic,c9,f9,g0,g1⟩:=aN Tryz.fJ;have i6:=E.size;have i7:(l:Int)<(q:Int):=by omega
     clear hT b5 b6 d4 hg a3 a4 I;go_upto_region 8 with fail
     clear c0 n0;refine aR 16 b8.o fun F KD J=>?_
     refine af 0 J ?_;refine af 4 J ?_;refine af 8 J ?_;refine ae 12 J ?_;refine ae 13 J ?_;refine ay 14 (fun K y=>?_);go_simp
     have K5:K_ F (F.alloc (.cells #[.string s] 9)):=ak _ _;have b9:(F.alloc (.cells #[.string s] 9)).cell? ⟨F.heap.size,0,none⟩=some (.string s):=X_ F #[.string s] 9 0 _ rfl;have A:=KD.trans K5;refine y.out _ _ (fun _=>b8.o _ A) ?_;clear y K J;have B:=Kz (p.o.kept A);obtain⟨eb,d6⟩:=ag F.heap.size;rw[<-d6] at b9⊢;generalize g2:F.alloc (.cells #[.string s] 9)=w6 at b9 A B⊢;clear g2 K5 d6;have c1:=B.o.row x;rw[Hg.o] at c1;have g3:=Kz c1;have g4:w.heap.size<=w6.heap.size:=(E.trans A).size;clear c1;try simp only[Act.put,upA,upB,upC]
     refine ay 15 (fun K y=>?_);refine step_append_lies _ rfl (.tmp 37) (.tmp 39) 25 rfl w.heap.size 9 ic _ 1 16 underlying25 c9 f9 g0 g1 rfl (by decide) (.slice va (j x).length vc) (j x).length ((j x).map Value.string) rfl g3.o ⟨eb,0,none⟩ 1 1 [.string s] rfl rfl (fun d7 u i=>?_) (fun u i=>?_) (by decide) (by unfold maxLen;omega) (by omega) g4 w6.heap.size rfl ?_
     ·match d7,i with
      | 0,i=>simp at i;subst i;rw[PQ];exact b9
      | d7+1,i=>simp at i
     ·simp at i;subst i;rfl
     intro gb gc w7 d8 T c2 i8;rw[<-Hg.o] at T c2;obtain⟨w8,g5,d9,e0⟩:=B.o.put (s:=x) (x:=s) b7 d8 T (fun e8 e=>by simp only[Value.ownBlock,PN] at e;subst e;rcases c2 with h | h;exact .inl h;exact .inr (Pw h.symm)) (by omega);have⟨g6,e3⟩:=aD d9 e0;have e4:But (fun b=>(g x).ownBlock=some b) w6 w7:=But.aQ T (fun b e=>e);have g7:m<w6.heap.size:=OV d5 (E.trans A).size;have g8:Hid (w7.cell? ⟨m,0,none⟩=some (.string x)/\(Instr.lookup 157 (.map (some v)) (.string x) false).run prog w7= .ok (.slice va (j x).length vc) w7):=by
      exact⟨(e4.cell g7 (fun e=>by have:=((B.o.row x).lt m e).1;omega)).trans (b8.o _ A).1,by have h:=B.o.rO (s:=x) b7 T;rw[Hg.o] at h;exact h⟩
     refine y.out _ _ (fun _=>g8.o) ?_;clear y K d9 d8 T c2 e4 e0;try simp only[Act.put,upA,upB,upC]
     refine ay 16 (fun K y=>?_);go_simp
     refine y.out _ _ (fun h=>Qi rfl h) ?_;clear y K;try simp only[Act.put,upA,upB,upC]
     refine az ?_;have K8:K_ w w8:=e3.o.kept (E.trans A) (fun b e=>by
      rcases e with e|e
      ·exact ((B.o.row x).lt b e).1
      ·rw[e];exact c8.o)
     have a5:=yg (S:=fun _=>False) b4 (But.aj A) id id;have g9:=yg a5 e3.o (fun e=>by
      rcases e with e|e
      ·exact Fp a5 (Y_ (B.o.row x) e)
      ·have:=c8.o;omega) (fun e=>by
      rcases e with e|e
      ·exact vL a5 (Y_ (B.o.row x) e)
      ·omega)
     clear a5 g5;go_wp2
     go_roundw
     case rel=>exact⟨l+1,M+1,_,_,by omega,by go_num,g9,by omega,g6,f8,K8⟩
     case measure=>simp[intOf];omega
    ·have h0:l=q:=by omega
     go_wp2
     go_roundw
     case rel=>
      refine⟨_,b0,M,g,j,b4,by omega,p,Kz (HJ.o.leave (by rw[h0,Hn.o];exact OU _) (fun s'=>?_)),E⟩;constructor
      ·rintro⟨k,n⟩;by_cases e:s'=s
       ·exact .inr e
       ·refine .inl ⟨k, ?_⟩;have a1:(bT s').sameKey (bT s)=false:=Maps.sameKey_ne (gH e);rw[a1] at n;simpa using n
      ·rintro (⟨k,n⟩|rfl)
       ·exact⟨k,by rw[n];rfl⟩
       ·exact⟨f5.o,by rw[JP.2 rfl];simp⟩
     case measure=>rw[b4.left_eq,a8.left_eq];exact f1
end
theorem En{Kq:List Qz}{ts:List Zk}{ws:Qw->List Nat}(b:BS Kq ts ws)(g:nU (Kk Kq) (Qq (Qj ts)))(n s:Qw):BJ ts ws n s↔bC (Kk Kq) (Qq (Qj ts)) n s:=by
 constructor
 ·rintro⟨t,c,rfl,i⟩;have j:=bU b.good.asc (PV (f:=fun t:Zk=>t.r) c);exact (Ed b.good.env g j s).1 ((b.wt s t c).1 i)
 ·intro h;obtain⟨r,e⟩:∃r,Qq (Qj ts) n=some r:=by obtain⟨r,_,e,_⟩:=h;exact⟨r,e⟩
  obtain⟨k,l⟩:=bN e;obtain⟨t,c,rfl⟩:=Pv.1 k;exact⟨t,c,l,(b.wt s t c).2 ((Ed b.good.env g e s).2 h)⟩
open Go.RowKit Go.Sort
theorem Gd{w:Qy}{z N:Nat}{D:DataW QA}(r:w.ownsMap prog 9 asIs z N D){d:List (List UInt8)}(h:d.Perm (strKeys D)):
  ∃nm:List Qw,nm.length=d.length/\nm.map Value.string= (d.mergeSort fun x y=>decide (x<=y)).map encStr/\oN nm/\∀s,s∈nm↔Maps.has D (bT s)=true:=by
 obtain⟨b,t,A,_⟩:=r.entries Tryz.keyed;obtain⟨B,v,C⟩:=r.keysOf;obtain rfl:b=B:=by rw[t] at v;simpa using v
 subst t;have i:∀p∈b,∃x,p.1= .string x:=fun p h=>by obtain⟨S,E⟩:=C p h;obtain⟨x,_,F,_⟩:=Maps.keyOf_str underlying9 E;exact⟨x,F⟩
 have G:(strKeys (.map b)).Nodup:=by
  refine List.pairwise_map.2 (A.imp_of_mem fun {p H} c I k e=>k ?_);obtain⟨a,f⟩:=i p c;obtain⟨J,K⟩:=i H I;rw[f,K] at e⊢;exact congrArg _ e
 have L:∀x,x∈strKeys (.map b)↔Maps.has (.map b) (.string x)=true:=fun x=>by
  rw[Maps.has_eq,List.any_eq_true];show x∈b.map (fun p=>strOf p.1)↔_;rw[Pv];constructor
  ·rintro⟨p,c,rfl⟩;obtain⟨a,f⟩:=i p c;exact⟨p,c,by rw[f];simp[Lit.sameKey,strOf]⟩
  ·rintro⟨p,c,g⟩;obtain⟨a,f⟩:=i p c;rw[f] at g;exact⟨p,c,by rw[f];simpa[Lit.sameKey,strOf] using g⟩
 obtain⟨l,M⟩:∃l:List Qw,l=d.map fun x=>(⟨x.toArray⟩:Qw):=⟨_,rfl⟩
 have m:(l.map fun s=>s.data.toList)=d:=by
  rw[M,List.map_map];have e:((fun s:Qw=>s.data.toList) ∘ fun x:List UInt8=>(⟨x.toArray⟩:Qw))=id:=by funext x;simp
  rw[e,List.map_id]
 have g:=xe l;rw[m] at g;have O:l.Nodup:=by
  have j:d.Nodup:=h.nodup_iff.2 G;rw[<-m] at j;exact (List.pairwise_map.1 j).imp fun {a J} k e=>k (by rw[e])
 obtain⟨j,P⟩:=g.asc O;refine⟨_,by simp,by rw[List.map_map];rfl,j,fun s=>?_⟩;rw[P];show s∈l↔Maps.has (.map b) (.string s.data.toList)=true;rw[<-L,<-h.mem_iff,<-m];constructor
 ·intro n;exact PV n
 ·intro n;obtain⟨q,Q,R⟩:=Pv.1 n;have:q=s:=by
   have T:q.data=s.data:=by have:=congrArg List.toArray R;simpa using this
   cases q;cases s;simp_all
  rw[<-this];exact Q
structure xC (w:Qy) (mo:Nat) (kp:Qw->Prop) (ol:Qw->List Qw):Prop where
 map:∃N D,N<=1000000/\w.ownsMap prog 9 asIs mo N D/\(∀s:Qw,s.size<=maxLen->∃a c,D.atKey (bT s) (.held (.slice none 0 0))= .held (.slice a (ol s).length c)/\Strs w a (ol s))/\∀s:Qw,Maps.has D (bT s)=true↔kp s
 sub:∀s,ol s≠[]->kp s
theorem xC.look{w w':Qy}{e:Nat}{g:Qw->Prop}{b:Qw->List Qw}(h:xC w e g b)(k:K_ w w'){s:Qw}(f:s.size<=maxLen):∃a c,(Instr.lookup 157 (.map (some e)) (.string s) false).run prog w'= .ok (.slice a (b s).length c) w'/\Strs w' a (b s):=by
 obtain⟨N,D,_,i,j,_⟩:=h.map;have l:=iB (S:=fun _=>False) i (But.aj k) id;obtain⟨v,x,n,d⟩:=l.lookup Tryz.keyed underlying157 (Tryz.GH w') (zd:= .held (.slice none 0 0)) (zp:=[]) rfl (WideMaps.keyOf_string_mk underlying9 f);obtain⟨a,c,p,q⟩:=j s f;refine⟨a,c, ?_,q.kept k⟩;unfold asIs at d;simp only[PN,Prod.mk.injEq] at d;have r:(DataW.held v:DataW QA)= .held (.slice a (b s).length c):=d.1.trans p;cases r;exact n
def Gq(k:Nat):Nat:=k*1000000
theorem Jz(k:Nat):Gq (k+1)=Gq k+1000000:=by unfold Gq;omega
theorem GQ{k:Nat}(h:k<=60):Gq k<=60000000:=by unfold Gq;omega
def KW(kp:Qw->Prop)(ol:Qw->List Qw)(w w':Qy)(e:Ending):Prop:=
 ∃(na:Qx) (nc:Nat) (nm:List Qw) (nb mb M:Nat) (need back:Nat->List Nat),e= .returned (.agg #[.slice na nm.length nc,.slice (some ⟨nb,0,none⟩) nm.length nm.length,.slice (some ⟨mb,0,none⟩) nm.length nm.length])/\oN nm/\(∀s,s∈nm↔kp s)/\uT w' na nm nb mb need back/\Eg (fun x y=>y∈ol x) nm M need back/\M<=60000000/\K_ w w'
structure ObM (u:Qy) (ob:Nat) (na:Qx) (nc n nb mb:Nat):Prop where
 c0:u.cell? ⟨ob,0,none⟩=some (.slice na n nc)
 c1:u.cell? ⟨ob,1,none⟩=some (.slice (some ⟨nb,0,none⟩) n n)
 c2:u.cell? ⟨ob,2,none⟩=some (.slice (some ⟨mb,0,none⟩) n n)
 ty:bZ u ob 203
variable {mb n nb nc ob : Nat} {na : Qx} {u : Qy}
theorem ObM.lt(h:ObM u ob na nc n nb mb):ob<u.heap.size:=by
 obtain⟨c,f,b⟩:=h.ty;exact aV b
theorem ObM.but{S:Nat->Prop}{b:Qy}(h:ObM u ob na nc n nb mb)(k:But S u b)(a:¬S ob):ObM b ob na nc n nb mb:=
 ⟨(k.cell h.lt a).trans h.c0,(k.cell h.lt a).trans h.c1,(k.cell h.lt a).trans h.c2,by
  obtain⟨c,f,d⟩:=h.ty;exact⟨c,f,(k.block _ h.lt a).trans d⟩⟩
theorem ObM.kept{a:Qy}(h:ObM u ob na nc n nb mb)(k:K_ u a):ObM a ob na nc n nb mb:=h.but (S:=fun _=>False) (But.aj k) id
def TabJ(w2:Qy)(na:Qx)(nc n:Nat)(a b:Act)(u:Qy):Prop:=
 ∃ob nb mb,b= {a with tmps:=((((((((a.tmps.setIfInBounds 14 (.slice na n nc)).setIfInBounds 15 (.slice na n nc)).setIfInBounds 16 (.int .i64 (n:Int))).setIfInBounds 17 (.slice (some ⟨nb,0,none⟩) n n)).setIfInBounds 18 (.slice na n nc)).setIfInBounds 19 (.int .i64 (n:Int))).setIfInBounds 20 (.slice (some ⟨mb,0,none⟩) n n)).setIfInBounds 21 (.agg #[.slice na n nc,.slice (some ⟨nb,0,none⟩) n n,.slice (some ⟨mb,0,none⟩) n n])).setIfInBounds 4 (.pointer (some ⟨ob,0,none⟩))}/\
  ObM u ob na nc n nb mb/\u.rowIs nb 56 n (fun _=>.slice none 0 0)/\u.rowIs mb 56 n (fun _=>.slice none 0 0)/\nb≠mb/\w2.heap.size<=nb/\w2.heap.size<=mb/\K_ w2 u
theorem qY{b:Nat}{t:TypeId}{v:QA}(h:u.heap[b]? =some (.cells (madeCells #[v] n) t)):u.rowIs b t n (fun _=>v):=by
 obtain⟨c,a,d⟩:=World.rowIs_made u v n t;rw[heap_alloc_new] at a;cases a;exact⟨_,h,d⟩
theorem bn(w2:Qy)(a b c:Obj):((((w2.alloc a).alloc b).alloc c).drew).heap[w2.heap.size]? =some a/\((((w2.alloc a).alloc b).alloc c).drew).heap[w2.heap.size+1]? =some b/\((((w2.alloc a).alloc b).alloc c).drew).heap[w2.heap.size+1+1]? =some c/\K_ w2 (((w2.alloc a).alloc b).alloc c).drew:=by
 have e:=heap_alloc_new w2 a;have d:=heap_alloc_new (w2.alloc a) b;have f:=heap_alloc_new ((w2.alloc a).alloc b) c;rw[PL] at d;rw[PL,PL] at f;have g:K_ ((w2.alloc a).alloc b) (((w2.alloc a).alloc b).alloc c).drew:=(ak _ _).drew;have h:K_ (w2.alloc a) (((w2.alloc a).alloc b).alloc c).drew:=((ak _ _).alloc _).drew;exact⟨(h.block _ (aV e)).trans e,(g.block _ (aV d)).trans d,f,(((ak _ _).alloc _).alloc _).drew⟩
theorem kU{w2:Qy}(a:u.heap[ob]? =some (.cells #[.slice na n nc,.slice (some ⟨nb,0,none⟩) n n,.slice (some ⟨mb,0,none⟩) n n] 203))(b:u.heap[nb]? =some (.cells (madeCells #[.slice none 0 0] n) 56))(h2:u.heap[mb]? =some (.cells (madeCells #[.slice none 0 0] n) 56))(c:nb≠mb)(d:w2.heap.size<=nb)(e:w2.heap.size<=mb)(k:K_ w2 u):
  ObM u ob na nc n nb mb/\u.rowIs nb 56 n (fun _=>.slice none 0 0)/\u.rowIs mb 56 n (fun _=>.slice none 0 0)/\nb≠mb/\w2.heap.size<=nb/\w2.heap.size<=mb/\K_ w2 u:=
 ⟨⟨by simp[World.cell?,a],by simp[World.cell?,a],by simp[World.cell?,a],⟨_,_,a⟩⟩,qY b,qY h2,c,d,e,k⟩
theorem Tryz.JG :(prog.info? 203).map (·.size)=some 3:=by kernel_rfl
theorem Tryz.Ma :(prog.info? 3).map (fun i=>(i.zero,i.size,i.bytes))=some (some (.int .i64 0),1,8):=by kernel_rfl
theorem Tryz.Mf :(prog.info? 56).map (fun i=>(i.zero,i.size,i.bytes))=some (some (.slice none 0 0),1,24):=by kernel_rfl
theorem CS(w:Qy)(mo:Nat)(kp:Qw->Prop)(R:Qw->List Qw)(all:List Qw)(n0:∀s,kp s->s∈all)(n1:all.length<=60)(n2:∀s,kp s->s.size<=20)(n3:∀s,(R s).length<=1000000)(hL:xC w mo kp R):
  Calls prog 132 #[.map (some mo)] w fun e w'=>KW kp R w w' e:=by
 obtain⟨N,n4,hN,hM,hf,i3⟩:=hL.map;have n5:=hM.size_le;obtain⟨W0,b1⟩:=ag (w.alloc (.cells #[.slice none 0 0,.slice none 0 0,.slice none 0 0] 203));have k0:K_ w W0:=by rw[b1];exact ak _ _
 have n6:Hid (aL W0 w.heap.size 203 3):=by rw[b1];exact aL.made w #[.slice none 0 0,.slice none 0 0,.slice none 0 0] 203
 have i4:=iB (S:=fun _=>False) hM (But.aj k0) id;have i5:=Kz (callsIn_wide.1 (Tryz.Ae (some mo) W0));have i6:=Kz (callsIn_wide.1 (Tryz.lV mo N n4 asIs W0 i4 (by unfold maxLen;omega) (by omega)));have⟨HM,e8,HL⟩:=bA hM i3 hL;clear hM i4 hf i3 hL n5;go_enter func132,ntmps132
 go_upto_region 1 with fail
 rw[<-b1];have p9:w.heap.size+1=W0.heap.size:=by rw[b1];simp
 clear b1;go_wp2_with fail
 refine i5.o.mono ?_;rintro e w1 ⟨rfl,i7⟩;rw[i7];clear i7 w1;go_wp2_with fail
 refine i6.o.mono ?_;rintro e b ⟨v,ss,rfl,hp,d1,n7,hb⟩;obtain⟨d,i8,i9,e9,f0⟩:=Gd HM.o hp;rw[<-i9,<-i8] at d1;have k2:K_ W0 b:=K_.trans (ak _ _) hb;obtain⟨na,U,Z,j0⟩:=bM d1;subst Z;have j1:d.length<=60:=by
  refine OX (List.Nodup.length_le_of_subset ?_ (fun x hx=>n0 x ((e8.o x).1 ((f0 x).1 hx)))) n1;exact e9.imp fun {a f} n8=>fE n8
 have⟨f1,j2,j3,f2⟩:=oZ j0 d1 k2 e9;have f3:Hid (∀s,s∈d↔kp s):=fun s=>(f0 s).trans (e8.o s)
 have K2:=k0.trans k2;clear hp d1 n7 hb i8 i9 f0 j0 e9 i5 i6 k2 k0 e8 HM;obtain⟨n,hn⟩:=ag d.length;rw[<-hn] at j1⊢;have b2:=Kz hn;clear hn;have n9:=run_make_row' (P:=prog) 201 56 _ _ underlying201 Tryz.Mf rfl .i64 .i64 n (by omega) (by omega);go_upto_region 2 with fail
 refine Df (TabJ b na U n) ?_ ?_
 ·go_region
  ·refine⟨rfl,b.heap.size+1+1,b.heap.size,b.heap.size+1, ?_,kU (bn b _ _ _).2.2.1 (bn b _ _ _).1 (bn b _ _ _).2.1 (by omega) (by omega) (by omega) (bn b _ _ _).2.2.2⟩;simp only[List.setIfInBounds_toArray,List.set_cons_zero,PX]
  ·refine⟨rfl,b.heap.size+1,b.heap.size,b.heap.size+1+1, ?_,kU (bn b _ _ _).2.1 (bn b _ _ _).1 (bn b _ _ _).2.2.1 (by omega) (by omega) (by omega) (bn b _ _ _).2.2.2⟩;simp only[List.setIfInBounds_toArray,List.set_cons_zero,PX]
  ·refine⟨rfl,b.heap.size+1+1,b.heap.size+1,b.heap.size, ?_,kU (bn b _ _ _).2.2.1 (bn b _ _ _).2.1 (bn b _ _ _).1 (by omega) (by omega) (by omega) (bn b _ _ _).2.2.2⟩;simp only[List.setIfInBounds_toArray,List.set_cons_zero,PX]
  ·refine⟨rfl,b.heap.size+1,b.heap.size+1+1,b.heap.size, ?_,kU (bn b _ _ _).2.1 (bn b _ _ _).2.2.1 (bn b _ _ _).1 (by omega) (by omega) (by omega) (bn b _ _ _).2.2.2⟩;simp only[List.setIfInBounds_toArray,List.set_cons_zero,PX]
  ·refine⟨rfl,b.heap.size,b.heap.size+1,b.heap.size+1+1, ?_,kU (bn b _ _ _).1 (bn b _ _ _).2.1 (bn b _ _ _).2.2.1 (by omega) (by omega) (by omega) (bn b _ _ _).2.2.2⟩;simp only[List.setIfInBounds_toArray,List.set_cons_zero,PX]
  ·refine⟨rfl,b.heap.size,b.heap.size+1+1,b.heap.size+1, ?_,kU (bn b _ _ _).1 (bn b _ _ _).2.2.1 (bn b _ _ _).2.1 (by omega) (by omega) (by omega) (bn b _ _ _).2.2.2⟩;simp only[List.setIfInBounds_toArray,List.set_cons_zero,PX]
 rintro f u ⟨a0,j,l,rfl,j4,f4,f5,o0,o1,o2,Q⟩;clear n9;simp only[List.setIfInBounds_toArray,List.set_cons_zero,PX];have K3:=K2.trans Q;have j5:b.heap.size<=u.heap.size:=Q.size;have q0:=Kz (f1.o.kept Q);have d2:Hid (pO u u.heap.size n (fun c=>if c=true then j else l) (fun _ _=>.slice none 0 0) (fun _ _=>[])):=by
  refine⟨fun c=>?_,by simpa using o0,fun c p=>PU _ _ _ _,fun c p c' p' _ x h=>(by cases h)⟩;cases c
  ·exact f5
  ·exact f4
 have j6:=Kz j4;have q1:=eY f4;have q2:=eY f5;have j7:Hid (gF (fun x y=>y∈R x) d 0 [] 0 0 (fun _=>[]) (fun _=>[])):=gF.start _ _ _;have j8:=Q;clear f4 f5 j4 Q;go_wp2
 go_loopw [24] (fun x wr=>∃(k M:Nat) (g:Bool->Nat->QA) (L:Bool->Nat->List Nat),k<=n/\x= .int .i64 (k:Int)/\M<=Gq k/\Hid (pO wr u.heap.size n (fun c=>if c=true then j else l) g L)/\Hid (gF (fun x y=>y∈R x) d k [] 0 M (L true) (L false))/\Hid (ObM wr a0 na U n j l)/\K_ b wr/\u.heap.size<=wr.heap.size) (fun x _=>n-(intOf x).toNat)
 case atStart=>exact⟨0,0,_,_,OW _,rfl,OW _,d2,j7,j6,j8,OU _⟩
 case round=>
  clear d2 j7 j6 j8;obtain⟨k,M,g,L,hk,rfl,j9,D,V,T,E,a1⟩:=hrel;by_cases k1:k<n;rotate_left
  ·obtain rfl:=b2.o;have o3:k=d.length:=by omega
   subst o3;obtain⟨q3,q4,q5,o4⟩:=T.o;have b3:=n6.o.kept (j3.o.trans E);obtain⟨⟨_,x0⟩,g0⟩:=b3.row.at (i:=0) (by omega);obtain⟨⟨_,x1⟩,g1⟩:=b3.row.at (i:=1) (by omega);obtain⟨⟨_,x2⟩,g2⟩:=b3.row.at (i:=2) (by omega);have o5:=Kz b3;clear b3 o4;go_wp2_with fail
   have hR:=OY wr w.heap.size 0 [.slice na d.length U,.slice (some ⟨j,0,none⟩) d.length d.length,.slice (some ⟨l,0,none⟩) d.length d.length] (o5.o.row.there (o:=0) (m:=3) (OU _));have kf:But (fun f=>f=w.heap.size) wr (wr.setCells w.heap.size 0 [.slice na d.length U,.slice (some ⟨j,0,none⟩) d.length d.length,.slice (some ⟨l,0,none⟩) d.length d.length]):=But.set (S:=fun f=>f=w.heap.size) (But.set (S:=fun f=>f=w.heap.size) (But.set (S:=fun f=>f=w.heap.size) (But.aj (K_.refl wr)) (p:=⟨w.heap.size,0,none⟩) rfl _) (p:=⟨w.heap.size,1,none⟩) rfl _) (p:=⟨w.heap.size,2,none⟩) rfl _;have q6:=j3.o.size;refine Zx [.slice na d.length U,.slice (some ⟨j,0,none⟩) d.length d.length,.slice (some ⟨l,0,none⟩) d.length d.length] _ results132 rfl hR underlying203 rfl Tryz.JG rfl ⟨na,U,d,j,l,M,L true,L false,rfl,f2.o,f3.o, ?_,V.o.whole,OX j9 (GQ j1),kf.kept (K2.trans E) (fun f e=>by rw[e];exact OU _)⟩;have o6:=kf.owns (ai j2.o E) (fun f e F=>by have:=(j2.o.lt f e).1;rw[PL] at this;omega);obtain⟨a9,c9,Z,a8⟩:=bM o6;simp only[PO,true_and] at Z;rw[<-Z.1] at a8;exact pO.read (D.o.but kf (fun c e=>by cases c <;> simp at e <;> omega) (fun c p f e F=>by have:=((D.o.own c p).lt f e).1;omega)) a8
  have b4:k<d.length:=by have:=b2.o;omega
  obtain⟨rb,ro,e1,o7,k3⟩:=(f1.o.kept E) k b4;subst e1;obtain⟨s,hs⟩:=ag (d.getD k ByteArray.empty);rw[<-hs] at k3;have f6:d[k]=s:=by rw[hs];simp[List.getD,b4]
  have k5:kp s:=(f3.o s).1 (by rw[<-f6];exact Pf b4);have k6:s.size<=maxLen:=by have:=n2 s k5;unfold maxLen;omega
  obtain⟨la,lc,k7,f7⟩:=HL.o.look (K2.trans E) k6;have k8:=Kz f6;have f8:=n3 s;obtain⟨d3,hQ⟩:=ag (R s);rw[<-hQ] at k7 f7 f8;have⟨HQ,k9⟩:=aD hQ f7;have q7:(k:Int)<(n:Int):=by omega
  clear hs f6 k5 k6 hQ f7;go_wp2_with fail
  refine (FZ wr la d3.length lc).mono ?_;rintro e w3 ⟨rfl,d4⟩;have Q:K_ wr w3:=by rw[d4];exact ak _ _
  have b5:w3.cell? ⟨wr.heap.size,0,none⟩=some (.slice la d3.length lc):=by rw[d4];exact X_ wr #[.slice la d3.length lc] 25 0 _ rfl
  have l0:wr.heap.size<w3.heap.size:=by rw[d4];simp
  clear d4 k7 k3;go_wp2_with fail
  refine (Ga w3 wr.heap.size la lc d3 (by omega) l0 b5 (k9.o.kept Q)).mono ?_;rintro e w4 ⟨v4,C,rfl,f9,g3,k4⟩;obtain⟨o8,o9,rfl⟩:=aG f9;have q8:C.length<=1000000:=by rw[g3.1.length_eq];exact f8
  have⟨g4,W⟩:=aD g3 f9;have l1:=Kz (D.o.kept (Q.trans k4));have l2:=Kz (T.o.kept (Q.trans k4));have l3:=Kz (V.o.enter C);have K4:=E.trans (Q.trans k4);have l4:u.heap.size<=w4.heap.size:=OX a1 (Q.trans k4).size;have q9:b.heap.size<=w3.heap.size:=(E.trans Q).size;clear f9 g3 b5 l0 D T V Q k4 E a1 k9 f8 o7;go_wp2
  go_loopw [35] (fun x wr=>∃(t M:Nat) (g:Bool->Nat->QA) (L:Bool->Nat->List Nat),t<=C.length/\x= .int .i64 (t:Int)/\M<=Gq k+t/\Hid (pO wr u.heap.size n (fun c=>if c=true then j else l) g L)/\Hid (gF (fun x y=>y∈R x) d k C t M (L true) (L false))/\Hid (ObM wr a0 (some ⟨rb,ro,none⟩) U n j l)/\Hid (wr.ownsRow w3.heap.size 9 1 (.slice o8 C.length o9) C.length (C.map Value.string))/\K_ b wr/\u.heap.size<=wr.heap.size) (fun x _=>C.length-(intOf x).toNat)
  case atStart=>exact⟨0,M,g,L,OW _,rfl,by omega,l1,l3,l2,W,K4,l4⟩
  case round=>
   clear l1 l3 l2 W K4 l4 j9;obtain⟨t,M,g,L,hj,rfl,r0,D,V,T,W,E,a1⟩:=hrel;by_cases d5:t<C.length;rotate_left
   ·have p0:C.length<=t:=by omega
    have g5:Hid (gF (fun x y=>y∈R x) d (k+1) [] 0 M (L true) (L false)):=V.o.leave b4 p0 (fun y=>by rw[g4.o.1.mem_iff,HQ.o,k8.o]);go_wp2
    go_roundw
    case rel=>exact⟨k+1,M,g,L,by omega,by go_num,by rw[Jz];omega,D,g5,T,E,a1⟩
    case measure=>simp[intOf];omega
   obtain⟨a9,c9,Z,a8⟩:=bM W.o;simp only[PO,true_and] at Z;rw[<-Z.1] at a8;obtain⟨qb,qo,e1,r1,g6⟩:=a8 t d5;subst e1;obtain⟨s',g7⟩:=ag (C.getD t ByteArray.empty);rw[<-g7] at g6;have l5:C[t]=s':=by rw[g7];simp[List.getD,d5]
   have l6:=Kz l5;have p1:Hid (Calls prog 164 #[.slice (some ⟨rb,ro,none⟩) n U,.string s'] wr fun e w'=>rM d s' e/\w'=wr):=by
    show Calls _ _ _ _ _;rw[b2.o];exact Ez wr _ U d s' (by have:=b2.o;omega) f2.o (f1.o.kept E)
   have r2:(t:Int)<(C.length:Int):=by omega
   clear Z a8 g7 l5;go_wp2_with fail
   refine p1.o.mono ?_;rintro e w5 ⟨⟨q,bq,rfl,g8,g9⟩,l7⟩;rw[l7];clear l7 w5;cases bq
   ·have p2:=Kz (g9 rfl);clear g8 g9 g6;have g5:Hid (gF (fun x y=>y∈R x) d k C (t+1) M (L true) (L false)):=V.o.skip d5 (by rw[l6.o];exact p2.o);go_wp2
    go_roundw
    case rel=>exact⟨t+1,M,g,L,by omega,by go_num,by omega,D,g5,T,W,E,a1⟩
    case measure=>simp[intOf];omega
   obtain⟨l8,l9⟩:=g8 rfl;have m0:q<n:=by have:=b2.o;omega
   have p3:Hid (d[q]=s'):=by show d[q]=s';rw[<-l9];simp[List.getD,l8]
   have m1:Hid (gF (fun x y=>y∈R x) d k C (t+1) (M+1) (fun p=>if p=k then L true k++ [q] else L true p) (fun p=>if p=q then L false q++ [k] else L false p)):=V.o.put ⟨f2.o,fun x y m2=>(f3.o x).2 (HL.o.sub x (fun e=>by rw[e] at m2;cases m2))⟩ d5 g4.o.2 l8 (by rw[p3.o,l6.o]) b4 (fun y hy=>by rw[g4.o.1.mem_iff,HQ.o] at hy;rw[k8.o];exact hy);have r3:=GQ (show k<=60 by omega);have r4:=(V.o.len k).1;have p4:=(V.o.len q).2;obtain⟨ic,m3,m4,m5,b5⟩:=info_parts Tryz.Ma;clear g8 g9 l9 g6;obtain⟨d6,d7,h0⟩:=aG (D.o.own true k);have d8:=Kz h0;have rA:wr.cell? ⟨j,k,none⟩=some (.slice d6 (L true k).length d7):=by have h:=(D.o.row true).cell k1;rw[h0] at h;exact h
   have h1:Hid (∀w',K_ wr w'->w'.cell? ⟨a0,1,none⟩=some (.slice (some ⟨j,0,none⟩) n n)/\w'.cell? ⟨j,k,none⟩=some (.slice d6 (L true k).length d7)):=fun w' K=>⟨(K.cell T.o.lt).trans T.o.c1,(K.cell (eY (D.o.row true))).trans rA⟩
   clear h0 rA;go_upto_region 11 with fail
   refine aR 12 h1.o fun G KD H=>?_
   refine af 0 H ?_;refine af 4 H ?_;refine ae 8 H ?_;refine ay 9 (fun K A=>?_);go_simp
   have K5:K_ G (G.alloc (.cells #[.int .i64 (q:Int)] 3)):=ak _ _;have X:(G.alloc (.cells #[.int .i64 (q:Int)] 3)).cell? ⟨G.heap.size,0,none⟩=some (.int .i64 (q:Int)):=X_ G #[.int .i64 (q:Int)] 3 0 _ rfl;have I:=KD.trans K5;refine A.out _ _ (fun _=>h1.o _ I) ?_;clear A K H;have r:=Kz (D.o.kept I);have B:=Kz (T.o.kept I);obtain⟨eb,b6⟩:=ag G.heap.size;rw[<-b6] at X⊢;generalize h2:G.alloc (.cells #[.int .i64 (q:Int)] 3)=w6 at X I r B⊢;clear h2 K5 b6 KD;have a3:=r.o.own true k;rw[d8.o] at a3;have b7:=Kz a3;have b8:u.heap.size<=w6.heap.size:=OX (a1) I.size;clear a3;try simp only[Act.put,upA,upB,upC]
   refine ay 10 (fun K A=>?_);refine step_append_lies _ rfl (.tmp 53) (.tmp 55) 56 rfl u.heap.size 3 ic _ 1 8 underlying56 m3 m4 m5 b5 rfl (by decide) (.slice d6 (L true k).length d7) (L true k).length ((L true k).map kv) rfl b7.o ⟨eb,0,none⟩ 1 1 [.int .i64 (q:Int)] rfl rfl (fun t u z=>?_) (fun u z=>?_) (by decide) (by unfold maxLen;omega) (by omega) b8 w6.heap.size rfl ?_
   ·match t,z with
    | 0,z=>simp at z;subst z;rw[PQ];exact X
    | t+1,z=>simp at z
   ·simp at z;subst z;rfl
   intro gb gc J b9 Y a4 h3;rw[<-d8.o] at Y a4;obtain⟨c0,c3⟩:=r.o.put true k (x:=q) b9 Y (fun y e=>by simp only[Value.ownBlock,PN] at e;subst e;rcases a4 with h | h;exact .inl h;exact .inr (Pw h.symm));have a5:But (fun f=>(g true k).ownBlock=some f) w6 J:=But.aQ Y (fun f e=>e);have a6:J.rowIs j 56 n (g true):=fQ (r.o.row true) (a5.block _ (eY (r.o.row true)) (fun e=>aA (gB (r.o.row true)) (Y_ (r.o.own true k) e) (by decide) rfl));have h4:=a6.frozen k;have c4:=a6.cell k1;have c5:J.cell? ⟨a0,1,none⟩=some (.slice (some ⟨j,0,none⟩) n n):=(a5.cell B.o.lt (fun e=>aA B.o.ty (Y_ (r.o.own true k) e) (by decide) rfl)).trans B.o.c1;have a7:Hid (J.cell? ⟨a0,1,none⟩=some (.slice (some ⟨j,0,none⟩) n n)/\J.cell? ⟨j,k,none⟩=some (.slice d6 (L true k).length d7)):=⟨c5,by rw[c4,d8.o]⟩;have⟨h5,d9⟩:=aD c0 c3;refine A.out _ _ (fun _=>a7.o) ?_;clear A K c0 c3 b9 Y a4 a5 a6 c5 h3 X;have H:=a7.o;try simp only[Act.put,upA,upB,upC]
   refine ae 11 H ?_;refine ay 12 (fun K A=>?_);go_simp
   refine A.out _ _ (fun h=>Qi rfl h) ?_;clear A K H;try simp only[Act.put,upA,upB,upC]
   refine az ?_;have m6:=Kz (But.aj (S:=fun y=>(g true k).ownBlock=some y\/y= (if true=true then j else l)) I);have c6:=Kz (m6.out.trans d9.o);have e0:=Kz (B.o.but d9.o (fun e=>by
    rcases e with e|e
    ·exact aA B.o.ty (Y_ (r.o.own true k) e) (by decide) rfl
    ·exact aA B.o.ty (gB (r.o.row true)) (by decide) e))
   generalize c7:J.setCell ⟨(if true=true then j else l),k,none⟩ (.slice (some ⟨gb,0,none⟩) ((L true k).length+1) gc)=b0 at h5 d9 e0 c6;have c8:J.setCell ⟨j,k,none⟩ (.slice (some ⟨gb,0,none⟩) ((L true k).length+1) gc)=b0:=c7;rw[c8];clear c7 c8 c4 h4 a7 b7 b8 d8 h1 m6 d9 r B I;have h6:∃(g2:Bool->Nat->QA) (O:Bool->Nat->List Nat),Hid (pO b0 u.heap.size n (fun c=>if c=true then j else l) g2 O)/\Hid (O=fun c p=>if c=true/\p=k then L true k++ [q] else L c p):=⟨_,_,h5,Kz rfl⟩;obtain⟨g2,O,a2,h7⟩:=h6;have r5:(O false q).length<=M:=by rw[h7.o];simpa using p4
   have e2:=Kz (c6.o.owns W.o (fun f e F=>by
    rcases F with F|F
    ·exact aA (Y_ W.o e) (Y_ (D.o.own true k) F) (by decide) rfl
    ·exact aA (Y_ W.o e) (gB (D.o.row true)) (by decide) F))
   have KA:K_ b b0:=c6.o.kept E (fun f e=>by
    rcases e with e|e
    ·exact OX j5 ((D.o.own true k).lt f e).1
    ·rw[e];exact o1)
   have h8:u.heap.size<=b0.heap.size:=OX a1 c6.o.size;have p5:=E;clear h5 c6 D T W E a1 p5;obtain⟨e3,e4,h9⟩:=aG (a2.o.own false q);have e5:=Kz h9;have rB:b0.cell? ⟨l,q,none⟩=some (.slice e3 (O false q).length e4):=by have h:=(a2.o.row false).cell m0;rw[h9] at h;exact h
   have i0:Hid (∀w',K_ b0 w'->w'.cell? ⟨a0,2,none⟩=some (.slice (some ⟨l,0,none⟩) n n)/\w'.cell? ⟨l,q,none⟩=some (.slice e3 (O false q).length e4)):=fun w' K=>⟨(K.cell e0.o.lt).trans e0.o.c2,(K.cell (eY (a2.o.row false))).trans rB⟩
   clear h9 rB;go_upto_region 12 with fail
   refine aR 12 i0.o fun G KD H=>?_
   refine af 0 H ?_;refine af 4 H ?_;refine ae 8 H ?_;refine ay 9 (fun K A=>?_);go_simp
   have K5:K_ G (G.alloc (.cells #[.int .i64 (k:Int)] 3)):=ak _ _;have X:(G.alloc (.cells #[.int .i64 (k:Int)] 3)).cell? ⟨G.heap.size,0,none⟩=some (.int .i64 (k:Int)):=X_ G #[.int .i64 (k:Int)] 3 0 _ rfl;have I:=KD.trans K5;refine A.out _ _ (fun _=>i0.o _ I) ?_;clear A K H;have r:=Kz (a2.o.kept I);have B:=Kz (e0.o.kept I);obtain⟨eb,b6⟩:=ag G.heap.size;rw[<-b6] at X⊢;generalize h2:G.alloc (.cells #[.int .i64 (k:Int)] 3)=w6 at X I r B⊢;clear h2 K5 b6 KD;have a3:=r.o.own false q;rw[e5.o] at a3;have b7:=Kz a3;have b8:u.heap.size<=w6.heap.size:=OX (h8) I.size;clear a3;try simp only[Act.put,upA,upB,upC]
   refine ay 10 (fun K A=>?_);refine step_append_lies _ rfl (.tmp 65) (.tmp 67) 56 rfl u.heap.size 3 ic _ 1 8 underlying56 m3 m4 m5 b5 rfl (by decide) (.slice e3 (O false q).length e4) (O false q).length ((O false q).map kv) rfl b7.o ⟨eb,0,none⟩ 1 1 [.int .i64 (k:Int)] rfl rfl (fun t u z=>?_) (fun u z=>?_) (by decide) (by unfold maxLen;omega) (by omega) b8 w6.heap.size rfl ?_
   ·match t,z with
    | 0,z=>simp at z;subst z;rw[PQ];exact X
    | t+1,z=>simp at z
   ·simp at z;subst z;rfl
   intro gb gc J b9 Y a4 h3;rw[<-e5.o] at Y a4;obtain⟨c0,c3⟩:=r.o.put false q (x:=k) b9 Y (fun y e=>by simp only[Value.ownBlock,PN] at e;subst e;rcases a4 with h | h;exact .inl h;exact .inr (Pw h.symm));have a5:But (fun f=>(g2 false q).ownBlock=some f) w6 J:=But.aQ Y (fun f e=>e);have a6:J.rowIs l 56 n (g2 false):=fQ (r.o.row false) (a5.block _ (eY (r.o.row false)) (fun e=>aA (gB (r.o.row false)) (Y_ (r.o.own false q) e) (by decide) rfl));have h4:=a6.frozen q;have c4:=a6.cell m0;have c5:J.cell? ⟨a0,2,none⟩=some (.slice (some ⟨l,0,none⟩) n n):=(a5.cell B.o.lt (fun e=>aA B.o.ty (Y_ (r.o.own false q) e) (by decide) rfl)).trans B.o.c2;have a7:Hid (J.cell? ⟨a0,2,none⟩=some (.slice (some ⟨l,0,none⟩) n n)/\J.cell? ⟨l,q,none⟩=some (.slice e3 (O false q).length e4)):=⟨c5,by rw[c4,e5.o]⟩;have⟨i1,e6⟩:=aD c0 c3;refine A.out _ _ (fun _=>a7.o) ?_;clear A K c0 c3 b9 Y a4 a5 a6 c5 h3 X;have H:=a7.o;try simp only[Act.put,upA,upB,upC]
   refine ae 11 H ?_;refine ay 12 (fun K A=>?_);go_simp
   refine A.out _ _ (fun h=>Qi rfl h) ?_;clear A K H;try simp only[Act.put,upA,upB,upC]
   refine az ?_;have m7:=Kz (But.aj (S:=fun y=>(g2 false q).ownBlock=some y\/y= (if false=true then j else l)) I);have d0:=Kz (m7.out.trans e6.o);have m8:=Kz (B.o.but e6.o (fun e=>by
    rcases e with e|e
    ·exact aA B.o.ty (Y_ (r.o.own false q) e) (by decide) rfl
    ·exact aA B.o.ty (gB (r.o.row false)) (by decide) e))
   generalize c7:J.setCell ⟨(if false=true then j else l),q,none⟩ (.slice (some ⟨gb,0,none⟩) ((O false q).length+1) gc)=e7 at i1 e6 m8 d0;have c8:J.setCell ⟨l,q,none⟩ (.slice (some ⟨gb,0,none⟩) ((O false q).length+1) gc)=e7:=c7;rw[c8];clear c7 c8 c4 h4 a7 b7 b8 e5 i0 m7 e6 r B I;have p6:=Kz (d0.o.owns e2.o (fun f e F=>by
    rcases F with F|F
    ·exact aA (Y_ e2.o e) (Y_ (a2.o.own false q) F) (by decide) rfl
    ·exact aA (Y_ e2.o e) (gB (a2.o.row false)) (by decide) F))
   have KB:K_ b e7:=d0.o.kept KA (fun f e=>by
    rcases e with e|e
    ·exact OX j5 ((a2.o.own false q).lt f e).1
    ·rw[e];exact o2)
   have p7:u.heap.size<=e7.heap.size:=OX h8 d0.o.size;have h6:∃(i2:Bool->Nat->QA) (L3:Bool->Nat->List Nat),Hid (pO e7 u.heap.size n (fun c=>if c=true then j else l) i2 L3)/\Hid (L3=fun c p=>if c=false/\p=q then O false q++ [k] else O c p):=⟨_,_,i1,Kz rfl⟩;obtain⟨i2,L3,d2,m9⟩:=h6;have p8:Hid (gF (fun x y=>y∈R x) d k C (t+1) (M+1) (L3 true) (L3 false)):=by
    have e1:L3 true=fun p=>if p=k then L true k++ [q] else L true p:=by funext p;rw[m9.o,h7.o];simp
    have F:L3 false=fun p=>if p=q then L false q++ [k] else L false p:=by funext p;rw[m9.o,h7.o];simp
    show gF _ _ _ _ _ _ _ _;rw[e1,F];exact m1.o
   clear i1 d0 a2 e2 KA h8 m1;go_wp2
   go_roundw
   case rel=>exact⟨t+1,M+1,i2,L3,by omega,by go_num,by omega,d2,p8,m8,p6,KB,p7⟩
   case measure=>simp[intOf];omega
def ML(nm:List Qw)(ps:List Nat)(w w':Qy)(e:Ending):Prop:=
 ∃da:Qx,e= .returned (.slice da (ps.map (nameOf nm)).length (ps.map (nameOf nm)).length)/\cZ w' w.heap.size w'.heap.size da (ps.map (nameOf nm))/\K_ w w'
theorem Le(w:Qy)(k:Qx)(m:Nat)(a:List Qw)(v1 v2:QA)(_h1c:v1.oneCell'=true)(_h2c:v2.oneCell'=true)(D:Qx)(L:Nat)(ps:List Nat)(E:∀p∈ps,p<a.length)(b6:ps.length<=1000)(_hnl:a.length<=1000)(M:∀s∈a,s.size<=1048576)(N:Strs w k a)(O:uH w D ps):
  Calls prog 133 #[.agg #[.slice k a.length m,v1,v2],.slice D ps.length L] w fun e w'=>ML a ps w w' e:=by
 obtain⟨P,Q,R,S,T⟩:=aN Tryz.fJ;obtain⟨b,l⟩:=ag (w.alloc (.cells #[.slice k a.length m,v1,v2] 203));have n:K_ w b:=by rw[l];exact ak _ _
 have U:b.cell? ⟨w.heap.size,0,none⟩=some (.slice k a.length m):=by rw[l];exact X_ w #[.slice k a.length m,v1,v2] 203 0 _ rfl
 have V:w.heap.size<b.heap.size:=by rw[l];simp
 go_enter func133,ntmps133
 go_upto_region 1 with fail
 rw[<-l];clear l;go_wp2
 go_loopg [5,10] ps.length (fun W X Y wr=>∃(i:Nat) (c:Qx) (d:Nat),X= .slice c i d/\Y= .int .i64 (i:Int)/\i+W=ps.length/\K_ b wr/\Hid (wr.ownsRow b.heap.size 9 1 (.slice c i d) i (((ps.take i).map (nameOf a)).map Value.string)))
 case atStart=>exact⟨0,none,0,rfl,rfl,by omega,K_.refl _,PU _ _ _ _⟩
 case round=>
  obtain⟨i,c,d,rfl,rfl,hi,f,x⟩:=hrel;by_cases b7:(i:Int)<(ps.length:Int)
  ·have q:i<ps.length:=by omega
   obtain⟨pb,po,Z,b8,a0⟩:=(O.kept (n.trans f)) i q;subst Z;obtain⟨p,g⟩:=ag (ps.getD i 0);rw[<-g] at a0;have a1:p<a.length:=E p (by rw[g];simp[List.getD,q]);obtain⟨sb,so,e2,b9,a2⟩:=(N.kept (n.trans f)) p a1;subst e2;obtain⟨s,h⟩:=ag (a.getD p ByteArray.empty);rw[<-h] at a2;have a3:Hid ((ps.take (i+1)).map (nameOf a)= (ps.take i).map (nameOf a)++ [s]):=by
    show _=_;rw[Pb q,Qm,h,g];simp[nameOf,List.getD,q]
   have d0:=(f.cell V).trans U;have c0:(p:Int)<(a.length:Int):=by omega
   clear g h;have y:K_ wr (wr.alloc (.cells #[.string s] 9)):=ak _ _;have F:=Kz (ai x.o y);have G:=Kz (f.trans y);have a4:b.heap.size<=(wr.alloc (.cells #[.string s] 9)).heap.size:=G.out.size;have a5:Hid (∀r u,([.string s]:List QA)[r]? =some u->(wr.alloc (.cells #[.string s] 9)).cell? ((⟨wr.heap.size,0,none⟩:Addr).add r)=some u):=fun r u t=>by rw[PQ];exact X_ wr #[.string s] 9 r u t
   have a6:Hid (∀u∈([.string s]:List QA),u.oneCell'=true):=fun u t=>by simp only[PS,PT,or_false] at t;subst t;rfl
   clear y;go_wp2_with (at_builtin;refine wpList_append_own _ rfl (.tmp 14) (.tmp 20) 25 rfl b.heap.size 9 P _ 1 16 underlying25 Q R S T rfl (by decide) (.slice c i d) i (((ps.take i).map (nameOf a)).map Value.string) rfl F.o ⟨wr.heap.size,0,none⟩ 1 1 [.string s] rfl rfl a5.o a6.o (by unfold maxLen;omega) (by omega) a4 ?_;intro v' w6 z H _;have KP:=aC G.out (OU _) F.o H;have a7:=Kz z;obtain⟨a8,a9,rfl⟩:=aG z;clear z H)
   go_roundg (gk-1)
   case measure=>omega
   case rel=>exact⟨i+1,a8,a9,rfl,by go_num,by omega,KP,Kz (by rw[a3.o,Qm];exact a7.o)⟩
  ·have b0:i=ps.length:=by omega
   subst b0;rw[PE] at x;obtain⟨c1,c9,A,B⟩:=bM x.o;simp only[PO] at A;rw[<-A.1] at B;have I:=Kz B;obtain⟨j,v⟩:=ag (ps.map (nameOf a));have J:ps.length=j.length:=by rw[v];simp
   rw[<-v] at I;have C:=Kz v;have b1:Hid (∀s∈j,s.size<=1048576):=fun s h=>by
    rw[C.o] at h;obtain⟨p,g,rfl⟩:=Pv.1 h;have:=E p g;exact M _ (by rw[uj this];exact Pf this)
   have b2:Hid (Calls prog 165 #[.slice c ps.length d,.func (.func 127) #[] #[]] wr fun e w'=>∃da,e= .returned (.slice da j.length j.length)/\cZ w' wr.heap.size w'.heap.size da j/\K_ wr w'):=by
    show Calls _ _ _ _ _;rw[J];exact C_ wr c d j (by omega) b1.o I.o
   clear A B v J;go_wp2_with fail
   refine b2.o.mono ?_;rintro e w5 ⟨b3,rfl,K,k5⟩;have b4:=Kz K;clear K;go_wp2
   go_ret
   refine⟨b3,by rw[C.o];rfl, ?_,(n.trans f).trans k5⟩;have b5:=b4.o;rw[<-C.o];have hz:=(n.trans f).size;exact b5.mono hz (OU _)
