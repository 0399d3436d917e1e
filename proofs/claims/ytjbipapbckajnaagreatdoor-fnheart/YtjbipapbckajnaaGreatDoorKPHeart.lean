import Derived.Test.YtjbipapbckajnaaGreatDoorKCTold
import Derived.Test.YtjbipapbckajnaaGreatDoorKXCirc
import Derived.Deep.WholeRow
import Derived.Test.YtjbipapbckajnaaGreatDoorKXAll
import Derived.Test.YtjbipapbckajnaaGreatDoorKDOrder
import Derived.LaidMore
import Derived.Test.YtjbipapbckajnaaGreatDoorCards
import Derived.Test.YtjbipapbckajnaaGreatDoorTie
import Derived.Lib.SmallJoins
set_option maxRecDepth 100000
set_option maxHeartbeats 25600000
namespace Go.Proofs.YtjbipapbckajnaaGreatDoor
open Go.RowKit Go.Shelf Go.Proofs.Tryz
attribute [local go_sem] Oper.semAt_some
def RdI(w1:NI)(c:Nat)(Kq:List Qz)(σ:Env)(rs:List Q_)(i:Nat)(W:NI):Prop:=
 K_ w1 W/\c<W.heap.size/\∃(ns:List NG) (v:NJ),W.cell? ⟨c,0,none⟩=some v/\W.frozen? ⟨c,0,none⟩=false/\W.ownsRow (c+1) 9 1 v ns.length (ns.map Value.string)/\bU (Kk Kq) σ (rs.take i) ns
theorem RdI.calm{w1:NI}{c:Nat}{r:List Qz}{σ:Env}{s:List Q_}{i B:Nat}(y:w1.heap.size<=c)(z:c<B):Calm B (RdI w1 c r σ s i):=by
 constructor
 .rintro W o A ⟨k,a,h,v,j,m,d,n⟩;have f:=(K_.refl W).alloc o;exact⟨k.trans f,I8,h,v,(f.cell a).trans j,(f.rules.2 c 0 a).trans m,(But.ax (S:=λ_=>False) f).owns d (λ_ _=>id),n⟩
 .rintro W l o p C t w ⟨k,a,h,v,j,m,d,n⟩;have q:But (λb=>b=l) W (W.putObj l p):=⟨rfl,rfl,rfl,G7,λb _ e=>World.putObj_heap_other e⟩;refine⟨q.kept k (λb e=>by rw[e];omega),by rw[World.putObj_size];exact a,h,v,(gG p E5).trans j,(nE p E5).trans m,q.owns d (λb x e=>?_),n⟩;have:=gu (Y_ d x) (by rw[e];exact t);rw[w] at this;cases this
def LQ(Kq:List Qz)(Kj:List NG)(sl:List Q_)(w w':NI)(e:Ending):Prop:=
 ∃(da:NH) (ns:List NG),e= .returned (.slice da ns.length ns.length)/\bX w' w.heap.size w'.heap.size da ns/\((dU Kq Kj sl/\bU (Kk Kq) (Qq sl) sl ns)\/(¬dU Kq Kj sl/\ns=[]))/\K_ w w'
theorem uq{a:List Qz}{σ:Env}{l:List Q_}{b:List NG}(c:bg (Kk a))(d:∀r∈l,r.Good a)(h:bU (Kk a) σ l b):∀s∈b,s.size<=1048576:=λs e=>by
 obtain⟨r,f,rfl,_⟩:=(h.mem s).1 e;obtain⟨A,i,_⟩:=(d r f).act;have:=(c _ _ i).2.2.1;omega
theorem yD(w:NI)(a:NH)(T:Nat)(k:List Qz)(J:NH)(K:Nat)(Kj:List NG)(L:NH)(U:Nat)(j:List Q_)(hl:k.length<=1048576)(hf:∀s∈k,s.Fits)(d5:Kj.length<=maxLen)(d6:Kj.length<=K)(d7:∀s∈Kj,s.size<=maxLen)(d8:j.length<=1048576)(d9:∀r∈j,r.texts.length<=1048576)(hS:bT w a k)(hR:Strs w J Kj)(hG:cB w L j)(e0:gD w):
  Calls prog 9 #[.agg #[.slice a k.length T],.agg #[.slice J Kj.length K,.slice L j.length U]] w λe w'=>LQ k Kj j w w' e:=by
 have H:K_ w ((w.alloc (.cells #[.slice a k.length T] 25)).alloc (.cells #[.slice J Kj.length K,.slice L j.length U] 32)):=(ah _ _).alloc _;refine (callsIn_wide (n:=9)).1 ?_;refine callsIn_of_wp_marks func9 rfl trivial ?_ rfl;simp only[ntmps9,List.size_toArray,MX,List.length_nil,Nat.reduceAdd,Nat.reduceSub,Array.replicate_succ,Array.replicate_zero,List.push_toArray,List.append_toArray,List.nil_append,List.cons_append]
 gi_wp2_with fail
 refine⟨trivial,(callsIn_wide.2 (vJ _ a T k J K Kj L U j hl hf d5 d6 d7 d8 d9 (hS.kept H) (hR.kept H) (hG.kept H) (e0.kept H))).mono ?_⟩;rintro e b ⟨k1,e1⟩;have a0:=H.trans k1;rcases e1 with⟨b3,rfl⟩|⟨hW,b4,hA,wz,I,mb,mx,d,e3,dc,g4,ws,f,rfl,kz,hB,a5,g5,hb,b5,b6⟩
 .have e4:=Kz b3;clear b3 k1 H
  gi_wp2_with fail
  exact⟨_,results_tmp rfl _ _ _,none,[],rfl,.inl rfl,.inr ⟨λh=>e4.o ⟨h.1,h.2.1,h.2.2.2.good.asc⟩,rfl⟩,a0⟩
 have HV:=Kz (hb.trans (zf hW b4 a5 b5 b6));have⟨b7,C,e5,HW⟩:=mM hb hB a5 hW;clear b4 hA kz hb b5 b6 k1 H hB a5 hW;cases f
 .gi_wp2_with fail
  exact⟨_,results_tmp rfl _ _ _,none,[],rfl,.inl rfl,.inr ⟨λh=>(by have E:=HV.o.2 h;cases E),rfl⟩,a0⟩
 have b8:Hid (Qj d=j):=b7.o.1 rfl;have b9:Hid (dU k Kj j):=HV.o.1 rfl;clear b7 HV
 gi_wp2_with fail
 obtain⟨M,V⟩:∃M,b.alloc (.cells #[M0] 26)=M:=⟨_,rfl⟩;rw[V];have K0:K_ b M:=by rw[<-V];exact ah _ _
 have z0:M.heap.size=b.heap.size+1:=by rw[<-V];simp
 obtain⟨q0,q1,_⟩:=Ce (w:=b) (v:= M0) (t:=26) (w1:=M) (by rw[V];exact K_.refl _);have g6:=C.o.len (lH HW.o);have g7:=C.o.row.lt;have zw:=C.o.kw.size;have c0:=(C.o.kept K0).c3;refine mU (lM I e3 d.length dc (iX d) E5) rfl (enters_of func33 F4 rfl) (vg E5) c0 (λ_=>rfl)
  (RdI b b.heap.size k (Qq (Qj d)) (Qj d)) (λ_ _=>False) (λi=>RdI.calm (Me _) E5) (λ_=>nD _)
  ⟨K0,E5,[],M0,q0,q1,Nc _ _ _ _,bU.nil⟩
  (λi=>{tmps:= #[.agg #[.slice a k.length T],.agg #[.slice J Kj.length K,.slice L j.length U],.c w.heap.size,.c (w.heap.size+1),M0,.c I,.bool true,.c b.heap.size,.c (iX d i),.tuple #[.c I,.bool true],.agg #[.slice a k.length T],.agg #[.slice J Kj.length K,.slice L j.length U],.tuple #[.c I,.bool true],.c I,.bool true,.bool true,.bool false,.c I,.func (.func 33) #[.c I] #[],.c (iX d i),undef,undef,undef,undef,undef,undef,undef,undef,undef,undef],defers:=[]}) ?assign (λi=>pE (λg e=>by have:=(C.o.apart e).1;omega)) ?step ?done ?stop
 case assign=>
  intro l i W N v
  gi_wp2
  exact v
 case stop=>
  intro D g8 W _ h _;exact h.elim
 case step=>
  rintro i W O ⟨F,P,c,a1,Q,E,x,m⟩;have a6:(Qj d).take (i+1)= (Qj d).take i++ [d[i].r]:=by
   rw[Ml (by simpa[Qj] using O)];simp[Qj]
  rcases (C.o.kept F).sees e5.o O with⟨hv,hr⟩|⟨X,hr⟩;rotate_left
  .exact .inr ⟨X,F,P,c,a1,Q,E,x,by rw[a6];exact m.no hr⟩
  refine .inl ⟨hv, ?_⟩;have⟨HR,e6⟩:=aH hr a6;clear hv hr a6 m x E Q a1 c P F;clear W;rintro l W _ ⟨F,P,c,a1,Q,E,x,m⟩ g9;have hT:=(C.o.kept F).fu d[i] (Mq O);have t0:W.cell? ⟨iX d i,0,none⟩=some (.string d[i].r.name):=by
   have h:=hT.rng 0 _ rfl;simpa[iX,List.getD,O] using h
  have e7:iX d i<b.heap.size:=by
   have h:=(C.o.fu d[i] (Mq O)).row.lt;simpa[iX,List.getD,O] using h
  have e8:c.length<=60:=by
   have:=m.len;simp only[MG] at this;omega
  obtain⟨y,z,rfl⟩:=ay x;obtain⟨n,X⟩:=aj (d[i].r.name);obtain⟨tb,a2⟩:=aj (iX d i);rw[<-X,<-a2] at t0;rw[<-a2] at e7;rw[<-a2];have⟨H3,H4,HN⟩:=dF x m X;clear hT x m X a2 q0 q1 c0 V;obtain⟨ic,e9,f0,f1,f2⟩:=info_parts Tryz.Ba;have h0:b.heap.size+1<=W.heap.size:=E5
  gi_wp2
  have a3:Hid (∀w',K_ W w'->(λw'=>w'.cell? ⟨b.heap.size,0,none⟩=some (.slice y c.length z)/\w'.cell? ⟨tb,0,none⟩=some (.string n)) w'):=λw' kk=>⟨(kk.cell P).trans Q,(kk.cell E5).trans t0⟩
  refine Ai F4 F4 (λ⟨_,_,h⟩=>h) (λw'=>w'.cell? ⟨b.heap.size,0,none⟩=some (.slice y c.length z)/\w'.cell? ⟨tb,0,none⟩=some (.string n)) 8 (a3.o _ (aV W)) (λY=>?_);have KD:K_ W W.drew:=aV W;have a7:Hid (KeepsOthers W W.drew):=KeepsOthers.drew W;generalize f3:W.drew=A at Y KD a7⊢;clear f3;refine au 0 Y ?_;refine ae 4 Y ?_;refine ae 5 Y ?_;refine ai 6 (λN v=>?_);go_simp
  have K5:K_ A (A.alloc (.cells #[.string n] 9)):=ah _ _;have a8:(A.alloc (.cells #[.string n] 9)).cell? ⟨A.heap.size,0,none⟩=some (.string n):=X_ A #[.string n] 9 0 _ rfl;have KE:KeepsOthers A (A.alloc (.cells #[.string n] 9)):=KeepsOthers.alloc _ _;have G:=KD.trans K5;have c1:=Kz (a7.o.trans KE);refine v.out _ _ (λ_=>a3.o _ G) ?_;clear v N Y KE a7;obtain⟨eb,c2⟩:=aj A.heap.size;rw[<-c2] at a8⊢;generalize f4:A.alloc (.cells #[.string n] 9)=w6 at a8 G c1⊢;clear f4 K5 c2;have a9:=Kz ((But.ax (S:=λ_=>False) G).owns H3.o (λ_ _=>id));have h1:=G.size;try simp only[upP]
  refine ai 7 (λN v=>?_);refine step_append_lies _ rfl (.tmp 20) (.tmp 26) 26 rfl (b.heap.size+1) 9 ic _ 1 16 underlying26 e9 f0 f1 f2 rfl E8 (.slice y c.length z) c.length (c.map Value.string) rfl a9.o ⟨eb,0,none⟩ 1 1 [.string n] rfl rfl (λc4 u B=>?_) (λu B=>?_) E8 F5 E5 E5 w6.heap.size rfl ?_
  .match c4,B with
   | 0,B=>simp at B;subst B;rw[MZ];exact a8
   | c4+1,B=>simp at B
  .simp at B;subst B;rfl
  intro g gq q c5 b0 f5 h2;have a4:∀f,(Value.slice y c.length z).ownBlock=some f->b.heap.size+1<=f:=λf e=>(a9.o.lt f e).1
  have Z:But (λf=>(Value.slice y c.length z).ownBlock=some f) w6 q:=But.aI b0 (λf e=>e);have c6:b.heap.size<w6.heap.size:=E5;have b1:(λw'=>w'.cell? ⟨b.heap.size,0,none⟩=some (.slice y c.length z)/\w'.cell? ⟨tb,0,none⟩=some (.string n)) q:=⟨(Z.cell c6 (λe=>by have:=a4 _ e;omega)).trans (a3.o _ G).1,(Z.cell E5 (λe=>by have:=a4 _ e;omega)).trans (a3.o _ G).2⟩;have c7:Hid (q.frozen? ⟨b.heap.size,0,none⟩=false):=(World.frozen?_of_block (w:=w6) (a:=⟨b.heap.size,0,none⟩) (Z.block b.heap.size c6 (λe=>by have:=a4 _ e;omega))).trans ((G.rules.2 _ _ P).trans E);have f6:K_ b q:=Z.kept (F.trans G) (λf e=>by have:=a4 f e;omega);have f7:Hid (KeepsOthers W q):=c1.o.trans (KeepsOthers.of_grownBy b0 (λf o e ho=>gu (Y_ a9.o e) ho));have c8:Hid (q.ownsRow (b.heap.size+1) 9 1 (.b g (c.length+1) gq) (c++ [n]).length ((c++ [n]).map Value.string)):=by rw[MU,Ny];exact c5
  refine af v (λ_=>b1) ?_;clear v N c5 b0 f5;have h3:q.cell? ⟨b.heap.size,0,none⟩=some (.slice y c.length z):=b1.1;have h4:q.frozen? ⟨b.heap.size,0,none⟩=false:=c7.o;have f8:Hid (KeepsFrom M.heap.size W (q.setCell ⟨b.heap.size,0,none⟩ (.b g (c.length+1) gq))):=(f7.o.trans (KeepsOthers.setCell _ _ _)).from _
  have b2:Hid (RdI b b.heap.size k (Qq (Qj d)) (Qj d) (i+1) (q.setCell ⟨b.heap.size,0,none⟩ (.b g (c.length+1) gq))):=by
   have f9:b.heap.size<q.heap.size:=by have:=Z.size;omega
   refine⟨f6.setCell (Me _) _,by rw[size_setCell];exact f9,c++ [n],_,Nl _ _ _ b1.1,by rw[World.frozen?_setCell];exact c7.o, ?_, ?_⟩
   .exact (But.set (S:=λf=>f=b.heap.size) (But.ax (K_.refl q)) (p:=⟨b.heap.size,0,none⟩) rfl _).owns c8.o (λf e e2=>by have:=(c8.o.lt f e).1;omega)
   .rw[e6.o,HN.o];exact H4.o.yes HR.o
  refine ai 8 (λN v=>?_);go_simp
  refine af v (λh=>Nv rfl h) ?_;clear v N;refine aF ?_;refine⟨f8.o,b2.o⟩
 case done=>
  rintro D W hD ⟨F,P,c,a1,Q,E,x,m⟩ c9;obtain⟨y,z,g0,d0⟩:=bK x;subst g0;have d1:(Qj d).take d.length=Qj d:=MO (by simp[Qj]);rw[d1,b8.o] at m;have e8:c.length<=60:=by
   have h5:=m.len;have h6:j.length=d.length:=by rw[<-b8.o];simp[Qj]
   omega
  have d2:=Kz (uq (cO HW.o) b9.o.2.2.2.good.good m);have⟨d3,H4⟩:=aH d0 m;have KW:=a0.trans F;clear x m d0 E d1
  gi_wp2_with fail
  refine⟨trivial,(callsIn_wide.2 (ji W y z c E5 d2.o d3.o)).mono ?_⟩;rintro e R ⟨da,rfl,d4,k9⟩;have g1:=aN c9;have g2:=(k9.block D g1).trans c9;have g3:w.heap.size<=D:=by have:=a0.size;omega
  have b2:Hid (bX (R.putObj D (.deferred none)) w.heap.size (R.putObj D (.deferred none)).heap.size da c/\((dU k Kj j/\bU (Kk k) (Qq j) j c)\/(¬dU k Kj j/\c=[]))/\K_ w (R.putObj D (.deferred none))):=by
   have kb:But (λf=>f=D) R (R.putObj D (.deferred none)):=⟨rfl,rfl,rfl,G7,λf _ e=>World.putObj_heap_other e⟩;refine⟨?_,.inl ⟨b9.o,H4.o⟩,kb.kept (KW.trans k9) (λf e=>by rw[e];exact g3)⟩;refine (d4.same (w':=R.putObj D (.deferred none)) (λf hb _ _=>World.putObj_heap_other E5)).mono (by have:=KW.size;omega) G7
  clear d4 KW H4 d3 d2 Q
  gi_wp2
  exact⟨E9,.inl ⟨_,_,rfl,run_takeDeferred g2,_,results_tmp rfl _ _ _,da,c,rfl,b2.o⟩⟩
attribute [local go_sem] Oper.semAt_some
def PkI(w1:NI)(c:Nat)(Kq:List Qz)(ts:List Zk)(i:Nat)(W:NI):Prop:=
 K_ w1 W/\c<W.heap.size/\∃(us:List Zk) (v:NJ),W.cell? ⟨c,0,none⟩=some v/\W.frozen? ⟨c,0,none⟩=false/\W.ownsRow (c+1) 70 1 v us.length (us.map λt=>Value.pointer (some ⟨t.tb,0,none⟩))/\bU (Kk Kq) (Qq (Qj ts)) ((Qj ts).take i) (us.map λt=>t.r.name)/\∀t∈us,t∈ts
theorem PkI.calm{w1:NI}{c:Nat}{r:List Qz}{s:List Zk}{i B:Nat}(y:w1.heap.size<=c)(z:c<B):Calm B (PkI w1 c r s i):=by
 constructor
 .rintro W o A ⟨k,a,h,v,j,m,d,n⟩;have f:=(K_.refl W).alloc o;exact⟨k.trans f,I8,h,v,(f.cell a).trans j,(f.rules.2 c 0 a).trans m,(But.ax (S:=λ_=>False) f).owns d (λ_ _=>id),n⟩
 .rintro W l o p C t w ⟨k,a,h,v,j,m,d,n⟩;have q:But (λb=>b=l) W (W.putObj l p):=⟨rfl,rfl,rfl,G7,λb _ e=>World.putObj_heap_other e⟩;refine⟨q.kept k (λb e=>by rw[e];omega),by rw[World.putObj_size];exact a,h,v,(gG p E5).trans j,(nE p E5).trans m,q.owns d (λb x e=>?_),n⟩;have:=gu (Y_ d x) (by rw[e];exact t);rw[w] at this;cases this
def Lx(Kq:List Qz)(ts:List Zk)(pick:Int)(w w':NI)(e:Ending):Prop:=
 ∃us:List Zk,bU (Kk Kq) (Qq (Qj ts)) (Qj ts) (us.map λt=>t.r.name)/\(∀t∈us,t∈ts)/\((us=[]/\e= .returned (.pointer none))\/∃h:pick.toNat % us.length<us.length,e= .returned (.c ((us[pick.toNat % us.length]).tb)))/\K_ w w'
theorem Tryz.GU :(prog.info? 70).map (λi=>(i.zero,i.size,i.bytes))=some (some (.pointer none),1,8):=F4
variable {G : bQ} {Kq : List Qz} {wz w w' : NI} {bb : Nat} {a : NH} {cap : Nat} {rd : NH} {rn rc : Nat} {mb mx : Nat} {ts : List Zk} {d : NH} {dc : Nat} {f : NG -> NJ} {ws : NG -> List Nat}
theorem De(hB:BM G Kq wz w bb a cap rd rn rc mb mx ts d dc f ws)(b7:BS Kq ts ws)(e2:ts.length<=60)(q:Int)(a7:0<=q)(_hp1:In64 q):
  Calls prog 57 #[.c bb,.a q] w λe w'=>Lx Kq ts q w w' e:=by
 have⟨P,b8⟩:=aH hB b7;refine (callsIn_wide (n:=9)).1 ?_;refine callsIn_of_wp_marks func57 rfl trivial ?_ rfl;simp only[ntmps57,List.size_toArray,MX,List.length_nil,Nat.reduceAdd,Nat.reduceSub,Array.replicate_succ,Array.replicate_zero,List.push_toArray,List.append_toArray,List.nil_append,List.cons_append]
 gi_wp2_with fail
 obtain⟨A,H⟩:∃A,w.alloc (.cells #[M0] 118)=A:=⟨_,rfl⟩;rw[H];have K0:K_ w A:=by rw[<-H];exact ah _ _
 have z0:A.heap.size=w.heap.size+1:=by rw[<-H];simp
 obtain⟨q0,q1,_⟩:=Ce (w:=w) (v:= M0) (t:=118) (w1:=A) (by rw[H];exact K_.refl _);have e3:=P.o.row.lt;have a8:=(P.o.kept K0).c3;refine mU (lM bb d ts.length dc (iX ts) E5) rfl (enters_of func33 F4 rfl) (vg E5) a8 (λ_=>rfl)
  (PkI w w.heap.size Kq ts) (λ_ _=>False) (λk=>PkI.calm (Me _) E5) (λ_=>nD _)
  ⟨K0,E5,[],M0,q0,q1,Nc _ _ _ _,bU.nil,λB ht=>by cases ht⟩
  (λk=>{tmps:= #[.c bb,.a q,undef,undef,.pointer none,.c w.heap.size,.c (iX ts k),.c bb,.func (.func 33) #[.c bb] #[],.c (iX ts k),undef,undef,undef,undef,undef,undef,undef,undef,undef,undef,undef,undef,undef,undef],defers:=[]}) ?assign (λk=>pE (λg e=>by have:=(P.o.apart e).1;omega)) ?step ?done ?stop
 case assign=>
  intro b9 k W e4 hK
  gi_wp2
  exact hK
 case stop=>
  intro D c W _ l _;exact l.elim
 case step=>
  rintro k W Q ⟨x,z,b,v,I,J,i,j,s⟩;have a3:(Qj ts).take (k+1)= (Qj ts).take k++ [ts[k].r]:=by
   rw[Ml (by simpa[Qj] using Q)];simp[Qj]
  rcases (P.o.kept x).sees b8.o Q with⟨hv,R⟩|⟨hn,R⟩;rotate_left
  .exact .inr ⟨hn,x,z,b,v,I,J,i,by rw[a3];exact j.no R,s⟩
  refine .inl ⟨hv, ?_⟩;have⟨HR,a9⟩:=aH R a3;clear hv R a3 s j i J I v b z x;clear W;rintro b9 W _ ⟨x,z,b,v,I,J,i,j,s⟩ e5;have c0:b.length<=60:=by
   have:=j.len;simp only[MG,Nn] at this;omega
  obtain⟨C,K,rfl⟩:=ay i;obtain⟨m,T⟩:=aj (ts[k]);have E:iX ts k=m.tb:=by rw[T];simp[iX,List.getD,Q]
  rw[E];rw[<-T] at HR a9;have c1:m∈ts:=by rw[T];exact Mq Q
  have⟨H3,U,X⟩:=dF i j s;clear i j s T E q0 q1 a8 H;obtain⟨ic,c2,c4,c5,c6⟩:=info_parts Tryz.GU;have c7:w.heap.size+1<=W.heap.size:=E5;obtain⟨V,F⟩:=aj (W.alloc (.cells #[.c m.tb] 70));have Y:K_ W V:=by rw[F];exact ah _ _
  have Z:=Kz Y;have L:=Kz ((But.ax (S:=λ_=>False) Y).owns H3.o (λ_ _=>id));have b0:w.heap.size+1<=V.heap.size:=Mh c7 Y.size;have b1:Hid (∀a0 u,([.c m.tb]:List NJ)[a0]? =some u->V.cell? ((⟨W.heap.size,0,none⟩:Addr).add a0)=some u):=λa0 u hu=>by rw[MZ,F];exact X_ W #[.c m.tb] 70 a0 u hu
  have c8:Hid (∀u∈([.c m.tb]:List NJ),u.oneCell'=true):=λu hu=>by simp only[Na,Nb,or_false] at hu;subst hu;rfl
  have c9:Hid (KeepsOthers W V):=by rw[F];exact KeepsOthers.alloc _ _
  rw[F] at L b1 b0;have HV:=Kz F;clear Y F
  gi_wp2_with (gi_at_builtin;refine wpListIn_append_own _ rfl (.tmp 10) (.tmp 12) 118 rfl (w.heap.size+1) 70 ic _ 1 8 underlying118 c2 c4 c5 c6 rfl E8 (.slice C b.length K) b.length (b.map λB=>Value.pointer (some ⟨B.tb,0,none⟩)) rfl L.o ⟨W.heap.size,0,none⟩ 1 1 [.c m.tb] rfl rfl b1.o c8.o F5 E5 b0 ?_;intro v' t a4 a1 _;rw[<-HV.o] at a1 L;have a2:∀h,(Value.slice C b.length K).ownBlock=some h->w.heap.size+1<=h:=λh e=>(L.o.lt h e).1;have M:But (λh=>(Value.slice C b.length K).ownBlock=some h) V t:=But.aI a1 (λh e=>e);have a5:w.heap.size<V.heap.size:=Mf z Z.o.size;have s9:t.cell? ⟨w.heap.size,0,none⟩=some (.slice C b.length K):=(M.cell a5 (λe=>by have:=a2 _ e;omega)).trans ((Z.o.cell z).trans I);have f9:t.frozen? ⟨w.heap.size,0,none⟩=false:=(World.frozen?_of_block (w:=V) (a:=⟨w.heap.size,0,none⟩) (M.block w.heap.size a5 (λe=>by have:=a2 _ e;omega))).trans ((Z.o.rules.2 _ _ z).trans J);have z9:w.heap.size<t.heap.size:=Mf a5 M.size;have d0:Hid (KeepsOthers W t):=c9.o.trans (KeepsOthers.of_grownBy a1 (λh o e ho=>gu (Y_ L.o e) ho));have d1:Hid (K_ w t):=M.kept (x.trans Z.o) (λh e=>by have:=a2 h e;omega);have d2:=Kz a4;obtain⟨b2,b3,rfl⟩:=ay a4;clear a4 a1 a2 M)
  have d3:Hid (KeepsFrom A.heap.size W (t.setCell ⟨w.heap.size,0,none⟩ (.slice b2 (b.length+1) b3))):=(d0.o.trans (KeepsOthers.setCell _ _ _)).from _
  refine⟨d3.o,d1.out.setCell (Me _) _,by rw[size_setCell];exact z9,b++ [m],_,Nl _ _ _ s9,by rw[World.frozen?_setCell];exact f9, ?_, ?_, ?_⟩
  .have HO:t.ownsRow (w.heap.size+1) 70 1 (.slice b2 (b.length+1) b3) (b++ [m]).length ((b++ [m]).map λB=>Value.pointer (some ⟨B.tb,0,none⟩)):=by rw[MU,Ny];exact d2.o
   exact (But.set (S:=λh=>h=w.heap.size) (But.ax (K_.refl t)) (p:=⟨w.heap.size,0,none⟩) rfl _).owns HO (λh e d4=>by have:=(HO.lt h e).1;omega)
  .rw[a9.o,Ny];exact U.o.yes HR.o
  .intro B ht;rcases Mo.1 ht with l|l
   .exact X.o B l
   .simp at l;rw[l];exact c1
 case done=>
  rintro D W hD ⟨x,z,b,v,I,J,i,j,s⟩ b4;obtain⟨C,K,rfl⟩:=ay i;have a6:(Qj ts).take ts.length=Qj ts:=MO (by simp[Qj]);rw[a6] at j;have c0:b.length<=60:=by
   have h6:=j.len;have h7:(Qj ts).length=ts.length:=by simp[Qj]
   simp only[Nn] at h6;omega
  have b5:w.heap.size<=D:=E5;have d5:Hid (K_ w (W.putObj D (.deferred none))):=by
   have kb:But (λh=>h=D) W (W.putObj D (.deferred none)):=⟨rfl,rfl,rfl,G7,λh _ e=>World.putObj_heap_other e⟩;exact kb.kept x (λh e=>by rw[e];exact b5)
  have d6:Hid (K_ w (W.drew.putObj D (.deferred none))):=by
   have kb:But (λh=>h=D) W.drew (W.drew.putObj D (.deferred none)):=⟨rfl,rfl,rfl,G7,λh _ e=>World.putObj_heap_other e⟩;exact kb.kept x.drew (λh e=>by rw[e];exact b5)
  have⟨U,X⟩:=aH j s;by_cases N:b.length=0
  .have d7:((b.length:Int) == 0)=true:=by simpa using N
   have d8:Hid (b=[]):=Mw.1 N;clear N i j s a6
   gi_wp2
   exact⟨E9,.inl ⟨_,_,rfl,run_takeDeferred b4,_,results_tmp rfl _ _ _,b,U.o,X.o,.inl ⟨d8.o,rfl⟩,d5.o⟩⟩
  have d7:((b.length:Int) == 0)=false:=by simpa using N
  obtain⟨y,O⟩:=aj (q.toNat % b.length);have b6:y<b.length:=by rw[O];exact Nat.mod_lt _ E5
  have e6:q.tmod (b.length:Int)= (y:Int):=by rw[Int.tmod_eq_emod_of_nonneg a7,O,Int.natCast_emod,Int.toNat_of_nonneg a7]
  obtain⟨g,rfl⟩:∃g,C=some ⟨g,0,none⟩:=by
   rcases i.2 with⟨e,d4⟩|⟨g,e7,e8,e,_⟩
   .omega
   .cases e;exact⟨g,rfl⟩
  have e9:g<W.heap.size:=(i.lt g rfl).2;have d9:W.cell? ⟨g,y,none⟩=some (.c ((b[y]).tb)):=by
   have l:=i.cells (g:=g) rfl y (.c ((b[y]).tb)) (by simp[b6]);rw[MZ,MM] at l;exact l
  obtain⟨tb,E⟩:=aj ((b[y]).tb);rw[<-E] at d9;have e0:Hid (∃l:q.toNat % b.length<b.length,(b[q.toNat % b.length]).tb=tb):=⟨by rw[<-O];exact b6,by rw[E];congr 1;simp[O]⟩;have f0:¬(b.length:Int)=0:=E5;have f1:(y:Int)<(b.length:Int):=E5;clear N i j s a6 O E
  gi_wp2_with fail
  gi_region
  gi_wp2
  obtain⟨hh,e1⟩:=e0.o;exact⟨E9,.inl ⟨_,_,rfl,run_takeDeferred (w:=W.drew) b4,_,results_tmp rfl _ _ _,b,U.o,X.o,.inr ⟨hh,by rw[e1];rfl⟩,d6.o⟩⟩
def tZ(W:NI)(v:NJ)(ps:List (Nat×NG)):bQ:=⟨W,λk=>v.ownBlock=some k,ps,λ_=>False⟩
theorem xO{w w':NI}{base size:Nat}{e:TypeId}{v:NJ}{n:Nat}{a:List NJ}(h:w.ownsRow base e size v n a)(b:∀k,v.ownBlock=some k->w'.heap[k]? =w.heap[k]?):w'.ownsRow base e size v n a:=by
 refine⟨h.1, ?_⟩;rcases h.2 with c|⟨g,d,f,rfl,i,j,rest⟩
 .exact .inl c
 .exact .inr ⟨g,d,f,rfl,i,by rw[b g rfl];exact j,rest⟩
theorem Dl{a:List Int}(h:∀p∈a,In64 p)(i:Nat):In64 (jh a i):=by
 unfold jh
 split
 .exact⟨E5,E5⟩
 .rename_i hne
  split
  .exact⟨E5,E5⟩
  .have d:0<a.length:=List.length_pos_iff.2 hne;have b:=Nat.mod_lt i d;have e:a.getD (i % a.length) 0∈a:=by
    simp only[List.getD,Mj b,Nw];exact Mq b
   exact h _ e
section
variable {G : bQ} {Kq : List Qz} {wz w w' W : NI} {bb : Nat} {a : NH} {cap : Nat} {rd : NH} {rn rc : Nat} {mb mx : Nat} {ts : List Zk} {d : NH} {dc : Nat} {f : NG -> NJ} {ws : NG -> List Nat} {v v' : NJ} {n n' : Nat} {xs xs' : List NJ} {ps : List (Nat × NG)}
theorem BM.before(h:BM (tZ w v ps) Kq wz W bb a cap rd rn rc mb mx ts d dc f ws)(b:W.ownsRow wz.heap.size 9 1 v n xs){t:Zk}(c:t∈ts):BM (tZ W v [(t.tb,t.r.name)]) Kq wz W bb a cap rd rn rc mb mx ts d dc f ws:=
 h.as ⟨Me _,λk e=>(b.lt k e).2,λ_ _=>rfl,h.oth.nb,h.oth.nm,h.oth.nt,h.oth.nf,λp i=>by obtain rfl:p= (t.tb,t.r.name):=(by simpa[tZ] using i);exact⟨t,c,rfl,rfl⟩⟩ (λ_ _ h=>h.1)
theorem BM.walked(h:BM (tZ w v ps) Kq wz W bb a cap rd rn rc mb mx ts d dc f ws)(r:W.ownsRow wz.heap.size 9 1 v n xs)(y:W.grownBy w' v.ownBlock)(i:∀g,v'.ownBlock=some g->v.ownBlock=some g\/W.heap.size<=g)(z:w'.ownsRow wz.heap.size 9 1 v' n' xs'):BM (tZ w' v' []) Kq wz w' bb a cap rd rn rc mb mx ts d dc f ws:=by
 have F:=h.oth;have A:But (λc=>v.ownBlock=some c) W w':=But.aI y (λc e=>e);have B:=h.no.but A (λc e=>(r.lt c e).1) F.nb F.nm (λc m e=>by
  obtain⟨G,H,C⟩:=Y_ h.items m;obtain⟨I,J,q⟩:=Y_ r e;rw[C] at q;simp only[MV,Obj.cells.injEq] at q;exact Nv q.2.1 E8) (λs c m=>F.nf s c m) F.nt (λ_ _=>id)
 refine B.as ⟨Me _,λk D=>(z.lt k D).2,λ_ _=>rfl,λe=>?_,λe=>?_,λt l=>⟨λe=>?_,λx j e=>?_⟩,λs x j e=>?_,λp E=>by cases E⟩ (λ_ _ h=>h.1)
 .rcases i bb e with b|b
  .exact F.nb b
  .exact (h.far b).1 rfl
 .rcases i mb e with b|b
  .exact F.nm b
  .exact (h.far b).2.1 rfl
 .rcases i t.tb e with b|b
  .exact (F.nt t l).1 b
  .exact ((h.far b).2.2.1 t l).1 rfl
 .rcases i x e with b|b
  .exact (F.nt t l).2 x j b
  .exact ((h.far b).2.2.1 t l).2 j
 .rcases i x e with b|b
  .exact F.nf s x j b
  .exact (h.far b).2.2.2 s j
theorem Jg(hB:BM G Kq wz w bb a cap rd rn rc mb mx ts d dc f ws)(W:BS Kq ts ws)(X:bg (Kk Kq))(c1:∀y∈Kq,y.Fits)(Y:Kq.length<=60)(c2:fP Kq)(hN:bT wz a Kq)(f9:mx<=80000)(c3:gD wz)(I:NH)(Z:Nat)(h:List Int)(c4:h.length<=1048576)(a0:∀p∈h,In64 p)(hP:Ints wz I h):
  Calls prog 21 #[.c bb,.slice I h.length Z] w λe w'=>∃(D:List NG) (i:NH) (k l:Nat) (b:List Zk) (s:NH) (v:Nat) (x:NG->NJ) (n:NG->List Nat),e= .returned (.slice i D.length k)/\BM (bQ.no wz) Kq wz w' bb a cap rd rn rc mb l b s v x n/\BS Kq b n/\l<=90000/\uR Kq h (Qj ts) [] (Qj b) D/\D.length<=1380/\Strs w' i D:=by
 have g0:=GH Kq (Qj ts);have a1:Hid (BM (tZ w M0 []) Kq wz w bb a cap rd rn rc mb mx ts d dc f ws):=hB.as ⟨Me _,λa2 J=>(by cases J),λ_ _=>rfl,λe=>(by cases e),λe=>(by cases e),λt _=>⟨λe=>(by cases e),λ_ _ e=>(by cases e)⟩,λ_ _ _ e=>(by cases e),λ_ j=>(by cases j)⟩ (λ_ _ j=>j.1);go_enter func21,ntmps21
 go_wp2
 go_loopg [5] (mQ Kq (Qj ts)) (λgg x5 wr=>∃(D:List NG) (i:NH) (k l:Nat) (b:List Zk) (s:NH) (v:Nat) (x:NG->NJ) (n:NG->List Nat),x5= .slice i D.length k/\Hid (BM (tZ wr (.slice i D.length k) []) Kq wz wr bb a cap rd rn rc mb l b s v x n)/\Hid (BS Kq b n)/\l+6*gg<=88280/\Hid (gg=mQ Kq (Qj b))/\Hid (Dc Kq h (Qj ts) (Qj b) D)/\Hid (wr.ownsRow wz.heap.size 9 1 (.slice i D.length k) D.length (D.map Value.string)))
 case atStart=>exact⟨[],none,0,mx,ts,d,dc,f,ws,rfl,a1,Kz W,E5,Kz rfl,Kz (Dc.start W.good),Kz (Nc _ _ _ _)⟩
 case round=>
  clear a1;obtain⟨D,i,k,l,b,s,v,x,n,rfl,B,q,g1,a3,K,c5⟩:=hrel;have c6:D.length<=1380:=by have h1:=K.o.fits;omega
  have c7:=B.o.len Y;go_wp2_with fail
  refine (Ej wr I Z h _ D.length rfl E5 c4 a0 (hP.kept B.o.kw)).mono ?_;rintro e w1 ⟨rfl,k1⟩;obtain⟨p,z⟩:=aj (jh h D.length);have c8:0<=p:=by rw[z];exact IV _ _
  have c9:Hid (In64 p):=by show In64 p;rw[z];exact Dl a0 _
  rw[<-z];have d0:=Kz z;clear z;go_wp2_with fail
  refine (De (B.o.kept k1) q.o c7 p c8 c9.o).mono ?_;rintro e w2 ⟨C,E,L,d1,k2⟩;have K2:=k1.trans k2;have a4:=Kz (B.o.kept K2);have M:=Kz (ak c5.o K2);have d2:=Kz E;rcases d1 with⟨rfl,rfl⟩|⟨hh,rfl⟩
  .clear E L;go_wp2
   go_ret
   obtain⟨a9,g2,e9,h9⟩:=bK M.o;simp only[MW,true_and] at e9;rw[<-e9.1] at h9;exact⟨D,i,k,l,b,s,v,x,n,rfl,a4.o.no,q.o,E5,K.o.on _ _ (.stop d2.o),c6,h9⟩
  obtain⟨t,F⟩:=aj (C[p.toNat % C.length]);have N:t∈b:=by rw[F];exact L _ (Mq hh)
  have r:(C.map λt=>t.r.name).getD (ma h D.length (C.map λt=>t.r.name).length) ByteArray.empty=t.r.name:=by
   rw[F,Nn];unfold ma;rw[<-d0.o];simp[List.getD,hh]
  have a5:=K.o.next X E (by rw[Nn];omega);rw[r] at a5;obtain⟨d3,O,a6,a7,a8⟩:=a5;have b0:=bJ q.o.good.asc (Nf (f:=λt:Zk=>t.r) N);obtain rfl:t.r=d3:=Ng (b0.symm.trans O);obtain⟨b1,hi,b2⟩:=Ms N;have d4:Hid (b[b1]? =some t):=by show b[b1]? =some t;rw[Mj hi,b2]
  rw[<-F];have⟨d5,d6,b3,d7⟩:=mM a6 a7 a8 O;clear F E L r a6 a7 a8 O b0 b2;go_wp2_with fail
  refine (ug (a4.o.before M.o N) q.o d4.o d5.o X c1 Y c2 hN E5 c3).mono ?_;rintro e c ⟨rfl,P,d8,d9,e0,e1,A,Q,b4⟩;obtain⟨t2,b5,R,e2⟩:=A.oth.has (t.tb,t.r.name) (by simp[tZ]);have S:=A.fu t2 b5;have c0:c.cell? ⟨t.tb,0,none⟩=some (.string t.r.name):=by
   have j:=S.rng 0 _ rfl;rw[R,M_] at j;rw[j];show some (Value.string t2.r.name)=_;rw[e2]
  have g3:t.tb<c.heap.size:=by have j:=S.row.lt;rw[R] at j;exact j
  have e3:=Kz (xO (w':=c) M.o (λa2 J=>A.oth.same a2 J));have T:Hid (Qj P=doL (Kk Kq) (Qj b) t.r):=xq Q.good.asc (Aw q.o.good.asc) (by rw[b4,pI q.o.good.asc d7.o]);have⟨e4,e5⟩:=aH A Q;obtain⟨m,r⟩:=aj t.r.name;rw[<-r] at c0;have e6:=Kz r;clear A Q b4 S R e2 b5 r;have U:K_ c (c.alloc (.cells #[.string m] 9)):=ah _ _;have b6:=Kz (ak e3.o U);have b7:=Kz (e4.o.kept U);have e7:Hid (Strs (c.alloc (.cells #[.string m] 9)) (some ⟨c.heap.size,0,none⟩) [m]):=λe8 hj=>by
   obtain rfl:e8=0:=by simpa using hj
   exact⟨c.heap.size,0,rfl,E9,X_ c #[.string m] 9 0 _ rfl⟩
  have f0:wz.heap.size<=(c.alloc (.cells #[.string m] 9)).heap.size:=b7.o.kw.size;obtain⟨ic,f1,f2,f3,f4⟩:=aU Tryz.eD;clear U;go_wp2_with (at_builtin;refine eZ rfl (.tmp 19) (.tmp 25) 26 rfl wz.heap.size 9 ic _ 16 underlying26 f1 f2 f3 f4 rfl (.slice i D.length k) D.length (D.map Value.string) rfl b6.o (some ⟨c.heap.size,0,none⟩) 1 [m] rfl e7.o J2 F6 f0 ?_;intro v' w4 H b8 b9;have f5:=Kz (b7.o.walked b6.o b8 b9 H);have f6:=Kz H;obtain⟨f7,f8,rfl⟩:=ay H;clear H b8 b9)
  go_roundg (mQ Kq (Qj P))
  case measure=>rw[a3.o,T.o];exact b3.o
  case rel=>
   have V:(D++ [m]).length=D.length+1:=E9;refine⟨D++ [m],f7,f8,l+6,P,d8,d9,e0,e1,by rw[V], ?_,e5, ?_,Kz rfl, ?_, ?_⟩
   .rw[V];exact f5
   .have h1:=a3.o;have g4:=b3.o;rw[T.o];omega
   .rw[T.o,e6.o];exact d6
   .rw[V,Ny];exact f6
end
open Go.RowKit
theorem Ex{w:NI}{lo hi:Nat}{a:NH}{l:List NG}(h:bX w lo hi a l):a=none->l.length=0:=λe=>by
 rcases h with rfl|⟨c,b,_⟩
 .rfl
 .rw[e] at b;cases b
theorem CR(w:NI)(r:Q_)(xa:NH)(xc:Nat)(R:r.name.size<=1048576)(S:r.text.size<=1048576)(T:r.texts.length<=1048576)(U:∀s∈r.texts,s.size<=1048576)(V:Strs w xa r.texts):
  Calls prog 61 #[.agg #[.string r.name,.bool r.over,.bool r.fail,.string r.text,.a r.at',.a r.Zq,.slice xa r.texts.length xc]] w λe w'=>∃x,e= .returned (.agg (r.cells x r.texts.length).toArray)/\bX w' w.heap.size w'.heap.size x r.texts/\K_ w w':=by
 go_enter func61,ntmps61
 go_wp2_with fail
 refine (mi _ r.name R).mono ?_;rintro e j ⟨rfl,k⟩;have D:K_ w j:=K_.trans ((ah _ _).alloc _) k;have W:=k.size;simp only[MS] at W;have E:=aD.kept (aD.made w #[.string r.name,.bool r.over,.bool r.fail,.string r.text,.a r.at',.a r.Zq,.slice xa r.texts.length xc] 40) (K_.trans (ah _ _) k);have h:j.rangeAt w.heap.size 0 [.string r.name,.bool r.over,.bool r.fail,.string r.text,.a r.at',.a r.Zq,.slice xa r.texts.length xc]:=λX Y Z=>by
  rw[(K_.trans (ah _ _) k:K_ (w.alloc (.cells #[.string r.name,.bool r.over,.bool r.fail,.string r.text,.a r.at',.a r.Zq,.slice xa r.texts.length xc] 40)) j).cell E9];exact X_ w #[.string r.name,.bool r.over,.bool r.fail,.string r.text,.a r.at',.a r.Zq,.slice xa r.texts.length xc] 40 X Y Z
 have F:aD j (w.heap.size+1) 40 7:=by
  have G:=aD.kept (aD.made (w.alloc (.cells #[.string r.name,.bool r.over,.bool r.fail,.string r.text,.a r.at',.a r.Zq,.slice xa r.texts.length xc] 40)) #[.string ⟨#[]⟩,.bool false,.bool false,.string ⟨#[]⟩,.a 0,.a 0,M0] 40) k;rw[MS] at G;exact G
 have l:Hid (aD j w.heap.size 40 7):=E;have H:Hid (aD j (w.heap.size+1) 40 7):=F;have p:=h 1 _ rfl;have q:=h 2 _ rfl;have I:=h 3 _ rfl;have t:=h 4 _ rfl;have v:=h 5 _ rfl;have y:=h 6 _ rfl;simp only[MM] at p q I t v y;obtain⟨⟨_,x0⟩,g0⟩:=l.o.row.at (i:=0) E5;clear E h F k;go_wp2_with fail
 refine (mi _ r.text S).mono ?_;rintro e f ⟨rfl,b⟩;have z:=(l.o.set (o:=0) (.string r.name)).kept b;have a:=(l.o.set (o:=0) (.string r.name)).lt;have J:f.cell? ⟨w.heap.size,0,none⟩=some (.string r.name):=by rw[b.cell a];exact aW l.o.row E5 _
 have K:f.cell? ⟨w.heap.size,1,none⟩=some (.bool r.over):=by rw[b.cell a,Xk E5];exact p
 have L:f.cell? ⟨w.heap.size,2,none⟩=some (.bool r.fail):=by rw[b.cell a,Xk E5];exact q
 have M:f.cell? ⟨w.heap.size,4,none⟩=some (.a r.at'):=by rw[b.cell a,Xk E5];exact t
 have N:f.cell? ⟨w.heap.size,5,none⟩=some (.a r.Zq):=by rw[b.cell a,Xk E5];exact v
 have q6:f.cell? ⟨w.heap.size,6,none⟩=some (.slice xa r.texts.length xc):=by rw[b.cell a,Xk E5];exact y
 have O:aD f (w.heap.size+1) 40 7:=(H.o.block (Below.heap_setCell _ _ _ _ E9)).kept b;have A:K_ w f:=K_.trans (D.setCell (Me _) _) b;have z2:=b.size;rw[size_setCell] at z2;have⟨n,P⟩:=aH z O;obtain⟨⟨_,x3⟩,g3⟩:=z.row.at (i:=3) E5;clear p q I t v y x0 g0 z O a l H D b;go_wp2_with fail
 refine (ji _ xa xc r.texts T U (V.kept (A.setCell (Me _) _))).mono ?_;rintro e d ⟨x,rfl,B,c⟩;have a:=(n.o.set (o:=3) (.string r.text)).lt;have p0:d.cell? ⟨w.heap.size,0,none⟩=some (.string r.name):=by rw[c.cell a,Xk E5];exact J
 have p1:d.cell? ⟨w.heap.size,1,none⟩=some (.bool r.over):=by rw[c.cell a,Xk E5];exact K
 have p2:d.cell? ⟨w.heap.size,2,none⟩=some (.bool r.fail):=by rw[c.cell a,Xk E5];exact L
 have p3:d.cell? ⟨w.heap.size,3,none⟩=some (.string r.text):=by rw[c.cell a];exact aW n.o.row E5 _
 have p4:d.cell? ⟨w.heap.size,4,none⟩=some (.a r.at'):=by rw[c.cell a,Xk E5];exact M
 have p5:d.cell? ⟨w.heap.size,5,none⟩=some (.a r.Zq):=by rw[c.cell a,Xk E5];exact N
 have Q:=(n.o.set (o:=3) (.string r.text)).kept c;have C:aD d (w.heap.size+1) 40 7:=(P.o.block (Below.heap_setCell _ _ _ _ E9)).kept c;have K3:K_ w d:=K_.trans (A.setCell (Me _) _) c;have z3:=c.size;rw[size_setCell] at z3 B;have⟨a8,HX⟩:=aH C B;obtain⟨⟨_,x6⟩,g6⟩:=Q.row.at (i:=6) E5;obtain⟨⟨⟨_,b0⟩,f0⟩,⟨⟨_,b1⟩,f1⟩,⟨⟨_,b2⟩,f2⟩,⟨⟨_,b3⟩,f3⟩,⟨⟨_,b4⟩,f4⟩,⟨⟨_,b5⟩,f5⟩,⟨_,b6⟩,f6⟩:=C.row.EC;clear J K L M N q6 x3 g3 Q C a n P A c B;go_wp2
 have hX:Row (d.setCell ⟨w.heap.size,6,none⟩ (.slice x r.texts.length r.texts.length)) (w.heap.size+1) 7:=(a8.o.block (Below.heap_setCell _ _ _ _ E9)).row;have hR:=Mi _ (w.heap.size+1) 0 (r.cells x r.texts.length) (hX.there (o:=0) (m:=7) (Me _));refine Zx (r.cells x r.texts.length) _ results61 rfl hR underlying40 rfl Tryz.CW rfl ⟨x,rfl,bX.mono (lo:=f.heap.size) (hi:=d.heap.size) ?_ E5 E9, ?_⟩
 .repeat (first | (refine bX.setCell ?_ F7 _) | exact HX.o)
 .repeat (first | (refine K_.setCell ?_ F7 _) | exact K3)
theorem Ar(w:NI)(a:NH)(W:Nat)(l:List Q_)(hl:l.length<=1048576)(r:∀s∈l,s.name.size<=1048576/\s.text.size<=1048576/\s.texts.length<=1048576/\∀t∈s.texts,t.size<=1048576)(X:cB w a l):
  Calls prog 60 #[.slice a l.length W,.func (.func 61) #[] #[]] w λe w'=>∃a',e= .returned (.slice a' l.length l.length)/\h_ w' w.heap.size w'.heap.size a' l/\K_ w w':=by
 by_cases F:l.length=0
 .have Y:l=[]:=Nz F;subst Y;go_enter func60,ntmps60
  go_wp2
  go_ret
  exact⟨none,rfl,.inl rfl,K_.refl _⟩
 .have Z:=qj (P:=prog) 30 40 _ _ _ underlying30 Tryz.CV .i64 .i64 l.length E5 E5;have a0:((l.length:Int) == 0)=false:=by simpa using F
  go_enter func60,ntmps60
  go_wp2
  clear Z a0;have C:=Row.made w (madeCells #[.string ⟨#[]⟩,.bool false,.bool false,.string ⟨#[]⟩,.a 0,.a 0,M0] (l.length*7)) 40;rw[size_madeCells] at C;have G:K_ w (w.alloc (.cells (madeCells #[.string ⟨#[]⟩,.bool false,.bool false,.string ⟨#[]⟩,.a 0,.a 0,M0] (l.length*7)) 40)):=ah _ _;go_loopw [16] (λi wr=>∃k:Nat,k<=l.length/\i= .a k/\K_ w wr/\Row wr w.heap.size (l.length*7)/\∃c:Nat->Nat,w.heap.size<c 0/\c k<=wr.heap.size/\(∀i j,i<=j->c i<=c j)/\∀j,j<k->jy wr w.heap.size j (c j) (c (j+1)) (l.getD j Q_.zero)) (λi _=>l.length-(intOf i).toNat)
  case atStart=>exact⟨0,Mg _,rfl,G,C,λ_=>w.heap.size+1,MJ _,E9,λ_ _ _=>Me _,λj v=>aO v⟩
  case round=>
   obtain⟨k,hk,rfl,x,n,c,y,H,h,D⟩:=hrel;have I:=Kz h;clear h;clear C G;by_cases J:k<l.length
   .obtain⟨b,o,a1,cx,rfl,hb,d,K,_⟩:=X.kept x k J;have L:=r (l.getD k Q_.zero) (by simp[List.getD,J]);have M:=Kz D;clear D;generalize r:l.getD k Q_.zero=s at *;have a2:=Kz r;clear r;have N:=d 0 _ rfl;have c1:=d 1 _ rfl;have c2:=d 2 _ rfl;have c3:=d 3 _ rfl;have c4:=d 4 _ rfl;have c5:=d 5 _ rfl;have c6:=d 6 _ rfl;simp only[M_] at N;have z:=Kz L;clear d L;go_wp2_with fail
    refine (CR _ s a1 cx z.o.1 z.o.2.1 z.o.2.2.1 z.o.2.2.2 (K.kept (by repeat (first | (refine K_.setCell ?_ E9 _) | apply K_.alloc | exact K_.refl _)))).mono ?_;rintro e f ⟨O,rfl,Q,R⟩;have p:K_ wr f:=K_.trans (by repeat (first | (refine K_.setCell ?_ E9 _) | apply K_.alloc | exact K_.refl _)) R;have b0:=p.size;have S:bX f wr.heap.size f.heap.size O s.texts:=Q.mono E9 (Me _);have b1:=n.lt;have a3:=x.trans p;have E:=n.kept p;generalize A:s.cells O s.texts.length=q;have B:q.length=7:=by rw[<-A];rfl
    have a4:q.toArray.all (·.oneCell')=true:=by rw[<-A,List.all_toArray,List.all_eq_true];exact Q_.one s _ _
    have T:f.there w.heap.size (k*7) q.toArray.size:=by simpa[B] using E.there (o:=k*7) (m:=7) E5
    have U:(prog.info? 40).map (·.size)=some q.toArray.size:=by rw[Tryz.CW];simp[B]
    have⟨a5,a6,a7⟩:=dF A B U;clear A B U;have HR:Hid (Row f w.heap.size (l.length*7)):=E;have V:=Kz S;have a8:Hid (∀j,j<k->jy f w.heap.size j (c j) (c (j+1)) (l.getD j Q_.zero)):=λj v=>(M.o j v).kept p n.lt
    clear M N c1 c2 c3 c4 c5 c6 x p n E K R Q S;go_wp2_with (refine wpList_store_mid rfl 40 _ _ rfl w.heap.size (k*7) q.toArray rfl rfl T (bf a7) a4 ?_)
    go_roundw
    case rel=>
     have h:=I.o;refine⟨k+1,E5,F3,K_.setCells (Me _) _ _ a3,Row.setCells _ _ HR.o,cutAt c k f.heap.size,by rw[kF (Mg _)];exact y,by rw[oM E5,size_setCells];exact Me _,Da h E5,λj v=>?_⟩;by_cases e:j=k
     .subst e;rw[bf a2,kF (Me _),oM E5];have a9:w.heap.size<c j:=Mf y (h 0 j (Mg _));exact⟨_,_,by rw[a5.o];exact Mi _ _ _ _ (by simpa using T),(V.o.mono H (Me _)).same (Same.setCells (.inl a9) _ _ _),Ex V.o⟩
     .rw[kF E5,kF E5];exact (a8.o j E5).setCells (Mf y (h 0 j (Mg _))) (by rw[a6.o];omega)
    case measure=>simp[intOf];omega
   .go_wp2
    go_ret
    have:k=l.length:=E5;subst this;exact⟨_,rfl,.inr ⟨w.heap.size,c,rfl,Me _,y,H,n,I.o,D⟩,x⟩
def LV(Kj:List NG)(T:List Q_)(w w':NI)(e:Ending):Prop:=
 ∃ra ds mid,e= .returned (.agg #[.slice ra Kj.length Kj.length,.slice ds T.length T.length])/\bX w' w.heap.size mid ra Kj/\h_ w' mid w'.heap.size ds T/\w.heap.size<=mid/\mid<=w'.heap.size/\K_ w w'
structure StI (w1 wr:NI) (ra:NH) (n:Nat) (ds:NH) (k dcs:Nat) (xs:List NJ):Prop where
 kw:K_ w1 wr
 row:aD wr w1.heap.size 32 2
 c0:wr.cell? ⟨w1.heap.size,0,none⟩=some (.slice ra n n)
 c1:wr.cell? ⟨w1.heap.size,1,none⟩=some (.slice ds k dcs)
 own:wr.ownsRow (w1.heap.size+1) 40 7 (.slice ds k dcs) k xs
section
variable {G : bQ} {Kq : List Qz} {wz w w' : NI} {bb : Nat} {a : NH} {cap : Nat} {rd : NH} {rc : Nat} {mb mx : Nat} {ts : List Zk} {d : NH} {dc : Nat} {f : NG -> NJ} {ws : NG -> List Nat}
theorem uL(Kj:List NG)(F:BM G Kq wz w bb a cap rd Kj.length rc mb mx ts d dc f ws)(d2:Kj.length<=1048576)(d3:∀s∈Kj,s.size<=1048576)(g4:ts.length<=60)(d4:∀t∈ts,t.r.name.size<=1048576/\t.r.text.size<=1048576/\t.r.texts.length<=1048576/\∀x∈t.r.texts,x.size<=1048576)(hR:Strs w rd Kj):
  Calls prog 22 #[.c bb] w λe w'=>LV Kj (Qj ts) w w' e:=by
 have d5:=F.c2;have b1:=F.c3;have zk:=F.row.lt;have O:=Kz F;obtain⟨d6,d7,d8,d9,e1⟩:=info_parts Tryz.CV;clear F;go_enter func22,ntmps22
 go_wp2_with fail
 refine (ji _ rd rc Kj d2 d3 (hR.kept (ah _ _))).mono ?_;rintro e c ⟨n,rfl,Z,P⟩;have K1:K_ w c:=K_.trans (ah _ _) P;have z1:=P.size;simp only[MS] at z1 Z;have e2:Hid (aD c w.heap.size 32 2):=aD.kept (aD.made w #[M0,M0] 32) P;have q3:=(K1.cell zk).trans b1;have e3:=Kz Z;have g5:bb<c.heap.size:=E5;clear Z P d5 b1;go_wp2
 have KA:K_ c (c.alloc (.cells #[.slice n Kj.length Kj.length,M0] 32)):=ah _ _;have b2:Hid (StI c (c.alloc (.cells #[.slice n Kj.length Kj.length,M0] 32)) n Kj.length none 0 0 []):=by
  have hc:=X_ c #[.slice n Kj.length Kj.length,M0] 32;exact⟨KA,aD.made c #[.slice n Kj.length Kj.length,M0] 32,hc 0 _ rfl,hc 1 _ rfl,Nc _ _ _ _⟩
 clear q3 KA;go_loopw [18] (λa0 wr=>∃k:Nat,k<=ts.length/\a0= .a k/\Hid (∃(v:NH) (A:Nat) (H:List NJ),StI c wr n Kj.length v k A H/\bD c (λ_=>True) H ((Qj ts).take k))) (λa0 _=>ts.length-(intOf a0).toNat)
 case atStart=>exact⟨0,Mg _,rfl,Kz ⟨none,0,[],b2.o,bD.nil _ _⟩⟩
 case round=>
  obtain⟨k,hk,rfl,b3⟩:=hrel;obtain⟨v,A,H,b4,b5⟩:=b3.o;have⟨h,Q⟩:=aH b4 b5;clear b4 b5 b3;have Kr:K_ w wr:=K1.trans h.o.kw;have zr:=h.o.kw.size;have a1:=h.o.row.lt;clear b2;by_cases I:k<ts.length
  .obtain⟨g,e4,e5⟩:=(O.o.kept Kr).item I;subst e4;have hT:=(O.o.kept Kr).fu ts[k] (Mq I);have b6:=(O.o.kept K1).fu ts[k] (Mq I);have e6:=(O.o.fu ts[k] (Mq I)).row.lt;obtain⟨j,l,a2⟩:=ay hT.txt;have a3:Strs c j ts[k].r.texts/\(j=none->l=0):=by
    have J:=b6.txt;obtain⟨g7,c9,e9,h9⟩:=bK J;rw[a2] at J e9;simp only[MW,true_and] at e9;rw[<-e9.1] at h9;exact⟨h9,(o_ J).2.1⟩
   have b7:Hid ((Qj ts).take (k+1)= (Qj ts).take k++ [ts[k].r]):=by
    show (Qj ts).take (k+1)= (Qj ts).take k++ [ts[k].r];rw[Ml (by simpa[Qj] using I)];simp[Qj]
   have q:wr.rangeAt ts[k].tb 0 (ts[k].r.cells j l):=λR e7 hv=>hT.rng R e7 (by
    have e0:ts[k].cells=ts[k].r.cells j l++ [.a ts[k].cost,.slice ts[k].sa ts[k].steps.length ts[k].sc,.a (ts[k].op:Int),ts[k].qv,.string ts[k].bl]:=by
     unfold Zk.cells Q_.cells;rw[a2]
     rfl
    rw[e0];have f0:R<(ts[k].r.cells j l).length:=(Mk.1 hv).1;rw[Ni f0];exact hv)
   obtain⟨i,b8⟩:=aj (ts[k].tb);obtain⟨r,hr⟩:=aj (ts[k].r);rw[<-b8] at e5 q e6;rw[<-hr] at q a3 b7;have b9:=Kz a3;have t0:=q 0 _ rfl;have t1:=q 1 _ rfl;have t2:=q 2 _ rfl;have t3:=q 3 _ rfl;have t4:=q 4 _ rfl;have t5:=q 5 _ rfl;have t6:=q 6 _ rfl;simp only[MM] at t0 t1 t2 t3 t4 t5 t6;have m1:=h.o.c1;have g8:i<c.heap.size:=E5;clear hT b6 a2 a3 q hr b8;have g9:(k:Int)<(ts.length:Int):=E5;have T:Hid (∀w':NI,(∀b,b<=c.heap.size->w'.heap[b]? =wr.heap[b]?)->(λw'=>w'.cell? ⟨c.heap.size,1,none⟩=some (.slice v k A)/\w'.cell? ⟨i,0,none⟩=some (.string r.name)/\w'.cell? ⟨i,1,none⟩=some (.bool r.over)/\w'.cell? ⟨i,2,none⟩=some (.bool r.fail)/\w'.cell? ⟨i,3,none⟩=some (.string r.text)/\w'.cell? ⟨i,4,none⟩=some (.a r.at')/\w'.cell? ⟨i,5,none⟩=some (.a r.Zq)/\w'.cell? ⟨i,6,none⟩=some (.slice j r.texts.length l)) w'):=λw' y=>⟨(Mt (w:=wr) (y c.heap.size (Me _))).trans m1,(Mt (w:=wr) (y i E5)).trans t0,(Mt (w:=wr) (y i E5)).trans t1,(Mt (w:=wr) (y i E5)).trans t2,(Mt (w:=wr) (y i E5)).trans t3,(Mt (w:=wr) (y i E5)).trans t4,(Mt (w:=wr) (y i E5)).trans t5,(Mt (w:=wr) (y i E5)).trans t6⟩
   have h0:c.heap.size<wr.heap.size:=a1;go_upto_region 5 with fail
   refine gY 9 T.o (λ_ _=>rfl) (λB=>?_);have KD:K_ wr wr.drew:=aV wr;generalize f1:wr.drew=C at B KD⊢;clear f1;refine au 0 B ?_;refine ae 4 B ?_;refine ae 5 B ?_;refine ai 6 (λK z=>?_);go_simp
   have U:K_ C (C.alloc (.cells #[.string r.name,.bool r.over,.bool r.fail,.string r.text,.a r.at',.a r.Zq,.slice j r.texts.length l] 40)):=ah _ _;have a4:=X_ C #[.string r.name,.bool r.over,.bool r.fail,.string r.text,.a r.at',.a r.Zq,.slice j r.texts.length l] 40;have L:=KD.trans U;have a5:∀b,b<=c.heap.size->(C.alloc (.cells #[.string r.name,.bool r.over,.bool r.fail,.string r.text,.a r.at',.a r.Zq,.slice j r.texts.length l] 40)).heap[b]? =wr.heap[b]? :=λb hb=>L.block b E5
   refine z.out _ _ (λ_=>T.o _ a5) ?_;clear z K B;obtain⟨eb,c4⟩:=aj C.heap.size;rw[<-c4] at a4⊢;generalize f2:C.alloc (.cells #[.string r.name,.bool r.over,.bool r.fail,.string r.text,.a r.at',.a r.Zq,.slice j r.texts.length l] 40)=w6 at a4 L a5⊢;clear f2 U c4;have c5:=Kz ((But.ax (S:=λ_=>False) L).owns h.o.own (λ_ _=>id));have h1:=L.size;try simp only[upP]
   refine ai 7 (λK z=>?_);refine step_append_lies _ rfl (.tmp 23) (.tmp 28) 30 rfl (c.heap.size+1) 40 d6 _ 7 80 underlying30 d7 d8 d9 e1 rfl E8 (.slice v k A) k H F8 c5.o ⟨eb,0,none⟩ 1 1 (r.cells j l) F8 rfl (λR u hu=>by rw[MZ];exact a4 R u hu) (Q_.one r j l) E5 F5 E5 E5 _ rfl ?_;intro g6 a6 M a7 c6 f3 h2;have c7:∀b,(Value.slice v k A).ownBlock=some b->c.heap.size+1<=b:=λb e=>(c5.o.lt b e).1
   have a9:But (λb=>(Value.slice v k A).ownBlock=some b) w6 M:=But.aI c6 (λb e=>e);have V:∀b,b<=c.heap.size->M.heap[b]? =wr.heap[b]? :=λb hb=>(a9.block b E5 (λe=>by have:=c7 b e;omega)).trans (a5 b hb)
   have W:aD M c.heap.size 32 2:=h.o.row.block (V _ (Me _));obtain⟨⟨_,f4⟩,f5⟩:=W.row.at (i:=1) E5;have h3:=a9.size;have f6:Hid (StI c (M.setCell ⟨c.heap.size,1,none⟩ (.b g6 (k+1) a6)) n Kj.length (some ⟨g6,0,none⟩) (k+1) a6 (H++r.cells j l)):=by
    refine⟨(a9.kept (h.o.kw.trans L) (λb e=>by have:=c7 b e;omega)).setCell (Me _) _,W.set _, ?_,aW W.row E5 _, ?_⟩
    .rw[Xk E5];exact (Mt (w:=wr) (V _ (Me _))).trans h.o.c0
    .exact (But.set (S:=λb=>b=c.heap.size) (But.ax (K_.refl M)) (p:=⟨c.heap.size,1,none⟩) rfl _).owns a7 (λb e h4=>by have:=(a7.lt b e).1;omega)
   refine af z (λ_=>T.o _ V) ?_;clear z K a7 c6 f3 W;have B:=T.o _ V;refine ae 8 B ?_;refine ai 9 (λK z=>?_);go_simp
   refine af z (λJ=>Nv rfl J) ?_;clear z K;refine aF ?_;go_wp2
   go_roundw
   case rel=>exact⟨k+1,E5,F3,Kz ⟨_,a6,_,f6.o,by rw[b7.o];exact Q.o.snoc b9.o.1 b9.o.2 (λ_ _=>trivial)⟩⟩
   case measure=>simp[intOf];omega
  .have f7:k=ts.length:=E5;subst f7;have X:Hid ((Qj ts).length=ts.length):=by show (Qj ts).length=ts.length;simp[Qj]
   have c8:(Qj ts).take ts.length=Qj ts:=MO (by rw[X.o];exact Me _);rw[c8] at Q;have f8:Hid (cB wr v (Qj ts)):=by
    obtain⟨_,a8,h5,e8,h8⟩:=bD.runs h.o.own Q.o h.o.kw;simp only[MW] at e8;rw[<-e8.1] at h8;exact h8.runs
   have f9:Hid (∀s∈Qj ts,s.name.size<=1048576/\s.text.size<=1048576/\s.texts.length<=1048576/\∀x∈s.texts,x.size<=1048576):=λs hs=>by
    obtain⟨t,ht,rfl⟩:=MH.1 hs;exact d4 t ht
   have m0:=h.o.c0;have m1:=h.o.c1;clear c8 Q;go_wp2_with fail
   have b0:=Ar wr v A (Qj ts) (by rw[X.o];omega) f9.o f8.o;rw[X.o] at b0;refine b0.mono ?_;clear b0;rintro e N ⟨D,rfl,d0,E⟩;have d1:=h.o.row.kept E;have n0:=(E.cell a1).trans m0;obtain⟨⟨_,f4⟩,f5⟩:=d1.row.at (i:=1) E5;have Y:aD N w.heap.size 32 2:=(e2.o.kept h.o.kw).kept E;obtain⟨⟨_,fa⟩,fb⟩:=Y.row.at (i:=0) E5;obtain⟨⟨_,fc⟩,fd⟩:=Y.row.at (i:=1) E5;have z5:=E.size;have⟨g0,g1⟩:=aH Y d0;have U:=Kr.trans E;have g2:=Kz ((e3.o.same (h.o.kw.same _ _)).same (E.same _ _));have h6:¬c.heap.size=w.heap.size:=E5;clear Y d1 d0 m0 m1;go_wp2
   have hX:Row (N.setCell ⟨c.heap.size,1,none⟩ (.slice D ts.length ts.length)) w.heap.size 2:=(g0.o.block (Below.heap_setCell _ _ _ _ F6)).row;have g3:=Mi _ w.heap.size 0 [.slice n Kj.length Kj.length,.slice D ts.length ts.length] (hX.there (o:=0) (m:=2) (Me _));refine Zx [.slice n Kj.length Kj.length,.slice D ts.length ts.length] _ results22 rfl g3 underlying32 rfl Tryz.EA rfl ⟨n,D,wr.heap.size,by rw[X.o], ?_, ?_,E5,by simp only[size_setCell];exact z5, ?_⟩
   .refine bX.mono (lo:=w.heap.size+1) (hi:=c.heap.size) ?_ E5 E5;exact ((g2.o.same (Same.setCell _ (.inr E9) _)).same (Same.setCell _ (.inl E9) _)).same (Same.setCell _ (.inl E9) _)
   .have hz:((((N.setCell ⟨c.heap.size,1,none⟩ (.slice D ts.length ts.length)).setCell ⟨w.heap.size,0,none⟩ (.slice n Kj.length Kj.length)).setCell ⟨w.heap.size,1,none⟩ (.slice D ts.length ts.length))).heap.size=N.heap.size:=by simp only[size_setCell]
    refine h_.mono (lo:=wr.heap.size) (hi:=N.heap.size) ?_ (Me _) (MI hz.symm);exact ((g1.o.same (Same.setCell _ (.inl a1) _)).same (Same.setCell _ (.inl F6) _)).same (Same.setCell _ (.inl F6) _)
   .exact ((U.setCell F6 _).setCell (Me _) _).setCell (Me _) _
end
theorem uR.names{c:List Qz}{d:List Int}{T j:List Q_}{D f:List NG}(n:uR c d T D j f)(k:bg (Kk c)):dD c T->(∀s∈D,s.size<=1048576)->∀s∈f,s.size<=1048576:=by
 induction n with
 | stop _=>exact λ_ h=>h
 | @step T j D f ns r hR hn hr _ ih=>
  intro i h;have l:ns.getD (ma d D.length ns.length) ByteArray.empty∈ns:=by
   have m:=sH d D.length hn;simp only[List.getD,Mj m,Nw];exact Mq m
  obtain⟨p,q,t⟩:=(hR.ready i.asc _).1 l;obtain rfl:r=p:=Ng (hr.symm.trans q);refine ih (rU k i (aY hr).1 t) (λs v=>?_);rcases Mo.1 v with b | b
  .exact h s b
  .simp only[Na,Nb,or_false] at b;rw[b];exact uq k i.good hR _ l
def LG(Kj:List NG)(T:List Q_)(D:List NG)(w w':NI)(e:Ending):Prop:=
 ∃ra ds da mid mid2,e= .returned (.agg #[.slice ra Kj.length Kj.length,.slice ds T.length T.length,.slice da D.length D.length])/\bX w' w.heap.size mid ra Kj/\h_ w' mid mid2 ds T/\bX w' mid2 w'.heap.size da D/\w.heap.size<=mid/\mid<=mid2/\mid2<=w'.heap.size/\K_ w w'
def Fz(Kq:List Qz)(Kj:List NG)(picks:List Int)(w w':NI)(e:Ending):Prop:=
 ((bv Kq 0/\dR Kj)/\∃T D,uR Kq picks (bM Kq Kj) [] T D/\T.length<=60/\D.length<=1380/\LG Kj T D w w' e)\/(¬(bv Kq 0/\dR Kj)/\e= .returned (.agg #[M0,M0,M0])/\K_ w w')
theorem x_(w:NI)(a:NH)(f:Nat)(c:List Qz)(I:NH)(J:Nat)(Kj:List NG)(K:NH)(W:Nat)(h:List Int)(hl:c.length<=1048576)(X:∀s∈c,s.Fits)(b3:Kj.length<=1048576)(b4:Kj.length<=J)(b5:∀s∈Kj,s.size<=maxLen)(b6:h.length<=1048576)(b7:∀p∈h,In64 p)(Y:bT w a c)(Z:Strs w I Kj)(hP:Ints w K h)(b8:gD w):
  Calls prog 6 #[.agg #[.slice a c.length f],.slice I Kj.length J,.slice K h.length W] w λe w'=>Fz c Kj h w w' e:=by
 obtain⟨j,k⟩:=aj ((w.alloc (.cells #[.slice a c.length f] 25)).alloc (.cells #[M0,M0,M0] 34));have a0:K_ w j:=by rw[k];exact (ah _ _).alloc _
 have a1:j.heap.size=w.heap.size+2:=by rw[k];simp
 have b0:j.cell? ⟨w.heap.size,0,none⟩=some (.slice a c.length f):=by rw[k,K_.cell (w:=w.alloc (.cells #[.slice a c.length f] 25)) (ah _ _) E9];exact X_ w _ _ 0 _ rfl
 have a2:Hid (aD j (w.heap.size+1) 34 3):=by
  have L:=aD.made (w.alloc (.cells #[.slice a c.length f] 25)) #[M0,M0,M0] 34;simp only[MS] at L;rw[k];exact L
 have z0:w.heap.size<j.heap.size:=E5;have⟨B,b9⟩:=aH a0 a1;clear a0 a1;go_enter func6,ntmps6
 go_upto_region 1 with fail
 rw[<-k];clear k;go_wp2_with fail
 refine (xD j a f c I J Kj hl X F5 b4 b5 (Y.kept B.o) (Z.kept B.o)).mono ?_;rintro e w1 ⟨k1,c0⟩;rcases c0 with⟨a3,rfl⟩|⟨C,a4,wz,bb,mb,ts,d,dc,rfl,M,hB,N,hE⟩
 .have c1:=Kz a3;have n:=Kz (a2.o.kept k1);obtain⟨⟨_,x0⟩,f0⟩:=n.o.row.at (i:=0) E5;obtain⟨⟨_,x1⟩,f1⟩:=n.o.row.at (i:=1) E5;obtain⟨⟨_,x2⟩,f2⟩:=n.o.row.at (i:=2) E5;have zr:=n.o.lt;clear a3 b0;go_wp2_with fail
  have O:=Mi w1 (w.heap.size+1) 0 [M0,M0,M0] (n.o.row.there (o:=0) (m:=3) (Me _));exact Zx [M0,M0,M0] _ results6 rfl O underlying34 rfl Tryz.zN rfl (.inr ⟨c1.o,rfl,bA (g:=w.heap.size+1) E5 [M0,M0,M0] 0 (B.o.trans k1)⟩)
 have c2:Hid (Qj ts=bM c Kj):=xq N.good.asc (fZ (cO C) Kj).asc hE;have⟨HB,c3,l,a5⟩:=mM hB N C a4;have a6:=lH C;have E:=B.o.trans M;clear hB N hE C a4 b0;go_wp2_with fail
 refine (Jg HB.o c3.o (cO l.o) X a6 (qI l.o) (Y.kept E) E5 (b8.kept E) K W h b6 b7 (hP.kept E)).mono ?_;rintro e w2 ⟨D,da,ac,e1,b,d2,e2,f2,e3,rfl,F,a7,e4,G,c4,a8⟩;rw[c2.o] at G;have c5:=F.len a6;have c6:Hid (∀t∈b,t.r.name.size<=1048576/\t.r.text.size<=1048576/\t.r.texts.length<=1048576/\∀P∈t.r.texts,P.size<=1048576):=λt ht=>by
  have q:=a7.good.good t.r (Nf ht);obtain⟨e5,hA,_⟩:=q.act;have L:=(cO l.o _ _ hA).2.2.1;have h2:=q.tl;have e6:=q.hi;have e7:=q.tx;exact⟨E5,E5,E5,λP hx=>by have:=q.ts P hx;omega⟩
 have c7:=Kz (G.names (cO l.o) (fZ (cO l.o) Kj) (λs Q=>by cases Q));have⟨c8,c9,d0⟩:=dF F G a8;have R:=F.kw;clear F a7 G a8;have d1:Hid (∀s∈Kj,s.size<=1048576):=λs Q=>by
  obtain⟨d3,hj,rfl⟩:=Ms Q;have d4:=(a5.o.2.2 d3 hj).1.2.1;simp only[List.getD,Mj hj,Nw] at d4;omega
 have S:=E.trans R;go_wp2_with fail
 refine (uL Kj c8.o b3 d1.o c5 c6.o (Z.kept S)).mono ?_;rintro e w3 ⟨v,x,d5,rfl,a9,b1,e8,d6,T⟩;have⟨d7,d8⟩:=aH a9 b1;clear a9 b1;go_wp2_with fail
 refine (ji w3 da ac D E5 c7.o (d0.o.kept T)).mono ?_;rintro e H ⟨y,rfl,b2,z⟩;have d9:=Kz b2;have KF:=S.trans (T.trans z);have A:=Kz (a2.o.kept (M.trans (R.trans (T.trans z))));obtain⟨⟨_,x0⟩,f0⟩:=A.o.row.at (i:=0) E5;obtain⟨⟨_,x1⟩,f1⟩:=A.o.row.at (i:=1) E5;obtain⟨⟨_,x2⟩,f2⟩:=A.o.row.at (i:=2) E5;have zr:=A.o.lt;have zw:=S.size;have zB:=(M.trans R).size;have e9:=b9.o;have z4:=z.size;clear b2;go_wp2_with fail
 have f3:(Qj b).length=b.length:=by simp[Qj]
 have O:=Mi H (w.heap.size+1) 0 [.slice v Kj.length Kj.length,.slice x (Qj b).length (Qj b).length,.slice y D.length D.length] (A.o.row.there (o:=0) (m:=3) (Me _));have U:∀{V hi:Nat},w.heap.size+1<V->Same V hi H (H.setCells (w.heap.size+1) 0 [.slice v Kj.length Kj.length,.slice x (Qj b).length (Qj b).length,.slice y D.length D.length]):=λ{V hi} f4 e0 hb _ _=>by
  show ((((H.setCell ⟨w.heap.size+1,0,none⟩ _).setCell ⟨w.heap.size+1,1,none⟩ _).setCell ⟨w.heap.size+1,2,none⟩ _).heap[e0]?)=_;rw[Below.heap_setCell _ _ _ _ F6,Below.heap_setCell _ _ _ _ F6,Below.heap_setCell _ _ _ _ F6]
 exact Zx [.slice v Kj.length Kj.length,.slice x (Qj b).length (Qj b).length,.slice y D.length D.length] _ results6 rfl O underlying34 rfl Tryz.zN rfl (.inl ⟨⟨l.o,a5.o⟩,Qj b,D,c9.o,E5,c4,v,x,y,d5,w3.heap.size,rfl,
  bX.mono (((d7.o.same (z.same _ _))).same (U E5)) E5 (Me _),(d8.o.same (z.same _ _)).same (U E5),bX.mono (d9.o.same (U E5)) (Me _) (by simp only[size_setCell];exact Me _),E5,d6,by simp only[size_setCell];exact z4,bA (g:=w.heap.size+1) E5 [.slice v Kj.length Kj.length,.slice x (Qj b).length (Qj b).length,.slice y D.length D.length] 0 KF⟩)
attribute [local go_sem] Oper.semAt_some
def mI(w:NI)(g:Nat):Prop:=∀o s,w.cell? ⟨g,o,none⟩≠some (.string s)
variable {g : Nat} {w : NI}
theorem mI.kept{w':NI}(h:mI w g)(b:g<w.heap.size)(k:K_ w w'):mI w' g:=λo s e=>h o s ((k.cell b).symm.trans e)
variable {a : NH}
theorem Cs{o:Nat}{v:NJ}{l:List NG}(h:Strs w a l)(d:mI w g):Strs (w.setCell ⟨g,o,none⟩ v) a l:=by
 intro i e;obtain⟨b,p,rfl,f,c⟩:=h i e;refine⟨b,p,rfl,by rw[size_setCell];exact f, ?_⟩;rw[ME _ _ _ _ (λj=>?_)]
 .exact c
 .have k:g=b:=congrArg Addr.block j;subst k;exact d _ _ c
theorem Ch{o:Nat}{v:NJ}{l:List fC}(h:qK w a l)(d:mI w g):qK (w.setCell ⟨g,o,none⟩ v) a l:=by
 intro i e;obtain⟨b,p,rfl,f,c⟩:=h i e;refine⟨b,p,rfl,by rw[size_setCell];exact f,λj u k=>?_⟩;rw[ME _ _ _ _ (λm=>?_)]
 .exact c j u k
 .have n:g=b:=congrArg Addr.block m;subst n;exact d _ _ (c 0 _ rfl)
theorem Az{vs:List NJ}{l:List NG}(h:Strs w a l)(d:mI w g):Strs (w.setCells g 0 vs) a l:=by
 intro i e;obtain⟨b,p,rfl,f,c⟩:=h i e;refine⟨b,p,rfl,by rw[size_setCells];exact f, ?_⟩;rw[World.cell?_setCells_out g vs 0 w _ (λj _=>?_)]
 .exact c
 .have k:b=g:=j;subst k;exact (d _ _ c).elim
theorem rE{vs:List NJ}{l:List fC}(h:qK w a l)(d:mI w g):qK (w.setCells g 0 vs) a l:=by
 intro i e;obtain⟨b,p,rfl,f,c⟩:=h i e;refine⟨b,p,rfl,by rw[size_setCells];exact f,λj u k=>?_⟩;rw[World.cell?_setCells_out g vs 0 w _ (λm _=>?_)]
 .exact c j u k
 .have n:b=g:=m;subst n;exact (d _ _ (c 0 _ rfl)).elim
def uN.cells(o:uN)(a f:NH)(c e0:Nat):List NJ:=[.a o.code,.slice a o.res.length c,.slice f o.chain.length e0,.a o.eF,.a o.cost]
theorem Gd{k m n:Int}{f:NH}{c e0 rl cl:Nat}{t:TypeId}:mI (w.alloc (.cells #[.a k,.slice a rl c,.slice f cl e0,.a m,.a n] t)) w.heap.size:=λo s e=>by
 have d:=X_ w #[.a k,.slice a rl c,.slice f cl e0,.a m,.a n] t
 match o,e with
 | 0,e=>have:=d 0 _ rfl;rw[e] at this;cases this
 | 1,e=>have:=d 1 _ rfl;rw[e] at this;cases this
 | 2,e=>have:=d 2 _ rfl;rw[e] at this;cases this
 | 3,e=>have:=d 3 _ rfl;rw[e] at this;cases this
 | 4,e=>have:=d 4 _ rfl;rw[e] at this;cases this
 | o+5,e=>
  have h:=World.alloc_heap_new w (.cells #[.a k,.slice a rl c,.slice f cl e0,.a m,.a n] t);unfold World.cell? at e;simp only[h] at e;simp at e
theorem Gx{b:Nat}{t:TypeId}(a:aD w b t 5)(h:∀o,o<5->∀s,w.cell? ⟨b,o,none⟩≠some (.string s)):mI w b:=λo s e=>by
 by_cases c:o<5
 .exact h o c s e
 .obtain⟨f,d,i⟩:=a;unfold World.cell? at e;simp only[d] at e;simp only[Option.isSome_none,Bool.false_eq_true,if_false] at e;have j:=(MR.1 e).1;omega
theorem Tryz.dN :(prog.info? 43).map (·.size)=some 5:=F4
theorem But.after{S c:Nat->Prop}{w' d:NI}(h:But S w w')(k:But c w' d)(f:∀b,b<w.heap.size->¬S b->¬c b):But S w d:=
 ⟨k.os.trans h.os,k.tape.trans h.tape,k.output.trans h.output,Mh h.size k.size,λb a e=>(k.block b (Mf a h.size) (f b a e)).trans (h.block b a e)⟩
theorem miss{b o a:Nat}{x v:NJ}(h:w.cell? ⟨b,o,none⟩=some x)(d:o≠a):(w.setCell ⟨b,a,none⟩ v).cell? ⟨b,o,none⟩=some x:=by rw[Xk E5];exact h
structure gZ (W2:NI) (ob:Nat) (w:NI) (code:Int) (rv:NJ) (eF cost:Int):Prop where
 but:But (λb=>b=ob) W2 w
 row:aD w ob 43 5
 c0:w.cell? ⟨ob,0,none⟩=some (.a code)
 c1:w.cell? ⟨ob,1,none⟩=some rv
 c2:w.cell? ⟨ob,2,none⟩=some M0
 c3:w.cell? ⟨ob,3,none⟩=some (.a eF)
 c4:w.cell? ⟨ob,4,none⟩=some (.a cost)
section
variable {W2 w w' : NI} {ob : Nat} {code eF cost : Int} {rv : NJ}
theorem gZ.kept(h:gZ W2 ob w code rv eF cost)(k:K_ w w'):gZ W2 ob w' code rv eF cost:=
 ⟨h.but.trans (But.ax k),h.row.kept k,(k.cell h.row.lt).trans h.c0,(k.cell h.row.lt).trans h.c1,(k.cell h.row.lt).trans h.c2,(k.cell h.row.lt).trans h.c3,(k.cell h.row.lt).trans h.c4⟩
theorem gZ.alike(h:gZ W2 ob w code rv eF cost){S:Nat->Prop}(k:But S w w')(c:∀b,S b->W2.heap.size<=b)(d:ob<W2.heap.size):gZ W2 ob w' code rv eF cost:=
 have a:¬S ob:=λe=>by have:=c _ e;omega
 ⟨h.but.after k (λb f _ e=>by have:=c _ e;omega),k.row h.row a,(k.cell h.row.lt a).trans h.c0,(k.cell h.row.lt a).trans h.c1,(k.cell h.row.lt a).trans h.c2,(k.cell h.row.lt a).trans h.c3,(k.cell h.row.lt a).trans h.c4⟩
theorem gZ.set0(h:gZ W2 ob w code rv eF cost)(x:Int):gZ W2 ob (w.setCell ⟨ob,0,none⟩ (.a x)) x rv eF cost:=
 ⟨h.but.set rfl _,h.row.set _,aW h.row.row E5 _,miss h.c1 E8,miss h.c2 E8,miss h.c3 E8,miss h.c4 E8⟩
theorem gZ.set1(h:gZ W2 ob w code rv eF cost)(x:NJ):gZ W2 ob (w.setCell ⟨ob,1,none⟩ x) code x eF cost:=
 ⟨h.but.set rfl _,h.row.set _,miss h.c0 E8,aW h.row.row E5 _,miss h.c2 E8,miss h.c3 E8,miss h.c4 E8⟩
theorem gZ.Ma(h:gZ W2 ob w code rv eF cost)(x:Int):gZ W2 ob (w.setCell ⟨ob,3,none⟩ (.a x)) code rv x cost:=
 ⟨h.but.set rfl _,h.row.set _,miss h.c0 E8,miss h.c1 E8,miss h.c2 E8,aW h.row.row E5 _,miss h.c4 E8⟩
theorem gZ.Md(h:gZ W2 ob w code rv eF cost)(x:Int):gZ W2 ob (w.setCell ⟨ob,4,none⟩ (.a x)) code rv eF x:=
 ⟨h.but.set rfl _,h.row.set _,miss h.c0 E8,miss h.c1 E8,miss h.c2 E8,miss h.c3 E8,aW h.row.row E5 _⟩
theorem gZ.no{a:NH}{b c:Nat}(h:gZ W2 ob w code (.slice a b c) eF cost):mI w ob:=Gx h.row λo d s e=>by
 match o,d,e with
 | 0,_,e=>have:=h.c0;rw[e] at this;cases this
 | 1,_,e=>have:=h.c1;rw[e] at this;cases this
 | 2,_,e=>have:=h.c2;rw[e] at this;cases this
 | 3,_,e=>have:=h.c3;rw[e] at this;cases this
 | 4,_,e=>have:=h.c4;rw[e] at this;cases this
end
theorem Jl{W:dA}{σ:Env}(d:xu σ){n:NG}{f:Bool}{t:NG}{a:Bool}(h:bH W σ n=if a=true then some ⟨f,t⟩ else none)(e:a=false->∃r,σ n=some r/\f=r.fail/\t=r.text):sV W σ n= ⟨n,a,f,t⟩:=by
 unfold sV;cases a
 .rw[h];obtain⟨r,b,i,j⟩:=e rfl;have k:r.over=false:=by
   unfold bH at h;cases c:W n with
   | none=>rw[c] at h;cases h
   | some A=>
    rw[c,b] at h;simp only at h;cases l:r.over
    .rfl
    .rw[l] at h;cases h
  obtain⟨m,p⟩:=d n r b k;rw[i,j,m,p]
  rfl
 .rw[h]
  rfl
section
variable {G : bQ} {Kq : List Qz} {wz w w' : NI} {bb : Nat} {a : NH} {cap : Nat} {rd : NH} {rn rc : Nat} {mb mx : Nat} {ts : List Zk} {d : NH} {dc : Nat} {f : NG -> NJ} {ws : NG -> List Nat}
theorem xW(J:BM G Kq wz w bb a cap rd rn rc mb mx ts d dc f ws)(K:xu (Qq (Qj ts)))(hl:ts.length<=1048576)(L:NH)(a3:Nat)(Kj:List NG)(c3:Kj.length<=1000)(M:∀n∈Kj,n.size<=1000/\((∃t∈ts,t.r.name=n)\/Kk Kq n=none))(B:∀n∈Kj,(sV (Kk Kq) (Qq (Qj ts)) n).text.size<=1048576)(N:Strs w L Kj):
  Calls prog 79 #[.slice L Kj.length a3,.func (.func 80) #[.c bb] #[]] w λe w'=>∃a',e= .returned (.slice a' Kj.length Kj.length)/\il w' w.heap.size w'.heap.size a' (Kj.map (sV (Kk Kq) (Qq (Qj ts))))/\K_ w w':=by
 obtain⟨R,C⟩:=aj (sV (Kk Kq) (Qq (Qj ts)));rw[<-C] at B⊢;have⟨O,HB,a4,D,a5⟩:=iZ C J K M B;have HR:=Kz N;clear C J K M B N;go_enter func79,ntmps79
 go_wp2
 go_loopw [5,12] (λx5 E wr=>∃(k:Nat) (l:NH) (p:Nat),k<=Kj.length/\E= .a (k:Int)/\x5= .slice l k p/\Hid (wr.ownsRow w.heap.size 84 4 (.slice l k p) k (bR ((Kj.take k).map R)))/\K_ w wr) (λ_ E _=>Kj.length-(intOf E).toNat)
 case atStart=>exact⟨0,none,0,Mg _,rfl,rfl,Kz (Nc _ _ _ _),K_.refl _⟩
 case round=>
  obtain⟨k,l,p,hk,rfl,rfl,P,m⟩:=hrel;by_cases q:k<Kj.length;rotate_left
  .have c4:¬((k:Int)<(Kj.length:Int)):=E5;have v:k=Kj.length:=E5;have a6:Hid (qK wr l (Kj.map R)):=by
    have Q:=P.o;rw[v,MN] at Q;obtain⟨a9,c5,S,h9⟩:=wY Q;simp only[MW] at S;rw[S.1];exact h9
   have T:(Kj.map R).length=k:=by rw[Nn];exact v.symm
   have⟨a7,a8⟩:=aH T v;clear q v T;go_wp2_with fail
   have s:=BA wr l p (Kj.map R) (by rw[Nn];omega) (λc6 s=>by
    obtain⟨n,U,rfl⟩:=MH.1 s;have h1:=(D.o n U).1;refine⟨?_,a5.o n U⟩;have:(R n).name=n:=by rw[O.o];unfold sV;cases bH (Kk Kq) (Qq (Qj ts)) n <;> rfl
    rw[this];omega) a6.o
   rw[a7.o] at s;refine s.mono ?_;rintro e w2 ⟨b0,rfl,V,k2⟩;have HI:=Kz V;clear V s;go_wp2
   go_ret
   exact⟨b0,by rw[a8.o];rfl,HI.o.mono m.size (Me _),m.trans k2⟩
  have c7:(k:Int)<(Kj.length:Int):=E5;obtain⟨sb,so,e1,b1,W⟩:=(HR.o.kept m) k q;subst e1;obtain⟨b,F⟩:=aj (Kj.getD k ByteArray.empty);rw[<-F] at W;have H:Kj[k]=b:=by rw[F];simp[List.getD,q]
  have X:b∈Kj:=by rw[<-H];exact Mq q
  have⟨b2,Y⟩:=aH H X;clear F H X;go_wp2_with fail
  refine (mg (HB.o.kept m) b hl (D.o b Y.o).1 (D.o b Y.o).2).mono ?_;rintro e i ⟨⟨c,h,j,rfl,Z,a0⟩,x⟩;have b3:Hid (R b= ⟨b,j,c,h⟩):=by rw[O.o];exact Jl a4.o Z a0
  have y:K_ i ((i.alloc (.cells #[.bool c,.string h] 80)).alloc (.cells #[.string b,.bool j,.bool c,.string h] 84)):=(ah _ _).alloc _;have r0:=X_ i #[.bool c,.string h] 80 0 _ rfl;have r1:=X_ i #[.bool c,.string h] 80 1 _ rfl;simp only[MM] at r0 r1;have a1:=Kz (ak P.o (x.trans y));have b4:w.heap.size<=((i.alloc (.cells #[.bool c,.string h] 80)).alloc (.cells #[.string b,.bool j,.bool c,.string h] 84)).heap.size:=(m.trans (x.trans y)).size;have b5:Hid (∀z u,([.string b,.bool j,.bool c,.string h]:List NJ)[z]? =some u->((i.alloc (.cells #[.bool c,.string h] 80)).alloc (.cells #[.string b,.bool j,.bool c,.string h] 84)).cell? ((⟨i.heap.size+1,0,none⟩:Addr).add z)=some u):=λz u A=>by have:=X_ (i.alloc (.cells #[.bool c,.string h] 80)) #[.string b,.bool j,.bool c,.string h] 84 z u A;rw[MS] at this;rw[MZ];exact this
  have b6:Hid (∀u∈([.string b,.bool j,.bool c,.string h]:List NJ),u.oneCell'=true):=λu A=>by simp only[Na,Nb,or_false] at A;rcases A with rfl | rfl | rfl | rfl <;> rfl
  have KK:=Kz (m.trans (x.trans y));obtain⟨ic,b7,b8,b9,c0⟩:=aU Tryz.qO;clear x y Z a0 W b1;go_wp2_with (at_builtin;refine wpList_append_own _ rfl (.tmp 22) (.tmp 30) 41 rfl w.heap.size 84 ic _ 4 40 underlying41 b7 b8 b9 c0 rfl E8 (.slice l k p) k (bR ((Kj.take k).map R)) rfl a1.o ⟨i.heap.size+1,0,none⟩ 1 1 [.string b,.bool j,.bool c,.string h] rfl rfl b5.o b6.o F5 E5 b4 ?_;intro v' w6 I a2 _;have KP:=aK KK.out (Me _) a1.o a2;have HP:=Kz I;obtain⟨c1,c2,rfl⟩:=ay I;clear I a2)
  go_roundw
  case rel=>
   refine⟨k+1,c1,c2,E5,F3,rfl,Kz ?_,KP⟩;rw[Ml q,Ny,List.map_cons,List.map_nil,b2.o,b3.o,oW];exact HP.o
  case measure=>simp[intOf];omega
end
attribute [local go_sem] Oper.semAt_some
theorem qp{P:Program}{e:Func}{c:Array NJ}{w:NI}{p:Tmp}{a:TypeId}{b:Nat}(v:NJ)(d:TypeDesc)(h:e.results= #[.cell p a])
  (f:c.getD p undef= .c b) (i:w.cell? ⟨b,0,none⟩=some v) (j:P.underlying a=some d) (n:d.isRow=false):(results e c).run P w= .ok v w:=by
 have k:c[p]?.getD undef= .c b:=by simpa using f
 have l:(isAgg a).run P w= .ok false w:=by
  unfold isAgg;rw[Sem.run_bind,run_underlying j w];cases d <;> simp_all
 have m:(loadVar a ⟨b,0,none⟩).run P w= .ok v w:=by simp[loadVar,Sem.run_bind,l,i]
 simp only[results,h];simp[k,asAddr,m]
def AnI(w1:NI)(c:Nat)(Kq:List Qz)(ts:List Zk)(i:Nat)(W:NI):Prop:=
 K_ w1 W/\aD W c 4 1/\∀r∈(Qj ts).take i,¬aT (Kk Kq) (Qq (Qj ts)) r
def AnX(w1:NI)(c:Nat)(Kq:List Qz)(ts:List Zk)(x:Code)(W:NI):Prop:=
 x= .ret/\K_ w1 W/\aD W c 4 1/\W.cell? ⟨c,0,none⟩=some (.bool true)/\∃r∈Qj ts,aT (Kk Kq) (Qq (Qj ts)) r
theorem AnI.calm{w1:NI}{c:Nat}{j:List Qz}{m:List Zk}{i B:Nat}(p:w1.heap.size<=c)(q:c<B):Calm B (AnI w1 c j m i):=by
 constructor
 .rintro W o r ⟨k,a,d⟩;have f:=(K_.refl W).alloc o;exact⟨k.trans f,a.kept f,d⟩
 .rintro W l o n s t v ⟨k,a,d⟩;have h:But (λb=>b=l) W (W.putObj l n):=⟨rfl,rfl,rfl,G7,λb _ e=>World.putObj_heap_other e⟩;exact⟨h.kept k (λb e=>by rw[e];omega),h.row a (λ(e:c=l)=>E5),d⟩
theorem AnX.calm{w1:NI}{c:Nat}{n:List Qz}{p:List Zk}{x:Code}{B:Nat}(q:w1.heap.size<=c)(r:c<B):Calm B (AnX w1 c n p x):=by
 constructor
 .rintro W o s ⟨b,k,a,d,f⟩;have h:=(K_.refl W).alloc o;exact⟨b,k.trans h,a.kept h,(h.cell a.lt).trans d,f⟩
 .rintro W l o j t v w ⟨b,k,a,d,f⟩;have m:But (λi=>i=l) W (W.putObj l j):=⟨rfl,rfl,rfl,G7,λi _ e=>World.putObj_heap_other e⟩;exact⟨b,m.kept k (λi e=>by rw[e];omega),m.row a (λ(e:c=l)=>E5),(gG j E5).trans d,f⟩
section
variable {G : bQ} {Kq : List Qz} {wz w w' : NI} {bb : Nat} {a : NH} {cap : Nat} {rd : NH} {rn rc : Nat} {mb mx : Nat} {ts : List Zk} {d : NH} {dc : Nat} {f : NG -> NJ} {ws : NG -> List Nat}
theorem AX(K:BM G Kq wz w bb a cap rd rn rc mb mx ts d dc f ws)(L:BS Kq ts ws)(a0:ts.length<=60):
  Calls prog 83 #[.c bb] w λe w'=>Says e (∃r∈Qj ts,aT (Kk Kq) (Qq (Qj ts)) r)/\K_ w w':=by
 have⟨s,M⟩:=aH K L;refine (callsIn_wide (n:=9)).1 ?_;refine callsIn_of_wp_marks func83 rfl trivial ?_ rfl;simp only[ntmps83,List.size_toArray,MX,List.length_nil,Nat.reduceAdd,Nat.reduceSub,Array.replicate_succ,Array.replicate_zero,List.push_toArray,List.append_toArray,List.nil_append,List.cons_append]
 gi_wp2_with fail
 obtain⟨m,t⟩:∃m,w.alloc (.cells #[.bool false] 4)=m:=⟨_,rfl⟩;rw[t];have C:K_ w m:=by rw[<-t];exact ah _ _
 have z0:m.heap.size=w.heap.size+1:=by rw[<-t];simp
 have N:Hid (aD m w.heap.size 4 1):=by rw[<-t];exact aD.made w #[.bool false] 4
 have a1:=s.o.row.lt;have O:=(s.o.kept C).c3;refine mU (lM bb d ts.length dc (iX ts) E5) rfl (enters_of func33 F4 rfl) (vg E5) O (λ_=>rfl)
  (AnI w w.heap.size Kq ts) (AnX w w.heap.size Kq ts) (λi=>AnI.calm (Me _) E5) (λ_=>AnX.calm (Me _) E5)
  ⟨C,N.o,λr p=>by simp at p⟩
  (λi=>{tmps:= #[.c bb,undef,.c w.heap.size,.c bb,.func (.func 33) #[.c bb] #[],.c (iX ts i)],defers:=[]}) ?assign (λi=>pE (λg e=>by have:=(s.o.apart e).1;omega)) ?step ?done ?stop
 case assign=>
  intro l i W a2 P
  gi_wp2
  simpa using P
 case step=>
  rintro i W v ⟨k,c,j⟩;have E:(Qj ts).take (i+1)= (Qj ts).take i++ [ts[i].r]:=by
   rw[Ml (by simpa[Qj] using v)];simp[Qj]
  rcases (s.o.kept k).sees M.o v with⟨F,p⟩|⟨Q,p⟩;rotate_left
  .refine .inr ⟨Q,k,c,λr H=>?_⟩;rw[E] at H;rcases Mo.1 H with h | h
   .exact j r h
   .rw[Mm] at h;rw[h];exact p
  refine .inl ⟨F, ?_⟩;have R:Hid (∃r∈Qj ts,aT (Kk Kq) (Qq (Qj ts)) r):=⟨_,MH.2 ⟨ts[i],Mq v,rfl⟩,p⟩;clear F p E j c k;clear W;rintro l W _ ⟨k,c,j⟩ a3;obtain⟨⟨_,x⟩,y⟩:=c.row.at (i:=0) E5;have S:=c.lt;have T:Hid (KeepsFrom m.heap.size W (W.setCell ⟨w.heap.size,0,none⟩ (.bool true))):=((KeepsOthers.refl W).trans (KeepsOthers.setCell _ _ _)).from _
  have q:Hid (AnX w w.heap.size Kq ts .ret (W.setCell ⟨w.heap.size,0,none⟩ (.bool true))):=⟨rfl,k.setCell (Me _) _,c.set _,aW c.row E5 _,R.o⟩;clear c j k
  gi_wp2
  exact⟨T.o,q.o⟩
 case done=>
  rintro D W U ⟨k,c,j⟩ z;have I:(Qj ts).take ts.length=Qj ts:=MO (by simp[Qj]);rw[I] at j;have V:Hid (¬∃r∈Qj ts,aT (Kk Kq) (Qq (Qj ts)) r):=λ⟨r,x,y⟩=>j r x y
  obtain⟨⟨_,x⟩,y⟩:=c.row.at (i:=0) E5;have S:=c.lt;have X:w.heap.size<D:=E5;have a4:=Kz c;have q:Hid (K_ w ((W.setCell ⟨w.heap.size,0,none⟩ (.bool false)).putObj D (.deferred none))):=by
   have A:But (λb=>b=D) (W.setCell ⟨w.heap.size,0,none⟩ (.bool false)) ((W.setCell ⟨w.heap.size,0,none⟩ (.bool false)).putObj D (.deferred none)):=⟨rfl,rfl,rfl,G7,λb _ e=>World.putObj_heap_other e⟩;exact A.kept (k.setCell (Me _) _) (λb e=>by rw[e];omega)
  have Y:(W.setCell ⟨w.heap.size,0,none⟩ (.bool false)).heap[D]? =some (.deferred (some [])):=(Below.heap_setCell _ _ _ _ (by show D≠w.heap.size;omega)).trans z;have B:Hid (((W.setCell ⟨w.heap.size,0,none⟩ (.bool false)).putObj D (.deferred none)).cell? ⟨w.heap.size,0,none⟩=some (.bool false)):=(gG _ E5).trans (aW c.row E5 _);clear c j I k
  gi_wp2
  exact⟨E9,.inl ⟨_,_,rfl,run_takeDeferred Y,_,qp (b:=w.heap.size) (.bool false) _ results83 rfl B.o underlying4 rfl,Says.no V.o,q.o⟩⟩
 case stop=>
  rintro D a5 W U ⟨rfl,k,c,j,J⟩ z;have X:w.heap.size<D:=E5;have q:Hid (K_ w (W.putObj D (.deferred none))):=by
   have A:But (λb=>b=D) W (W.putObj D (.deferred none)):=⟨rfl,rfl,rfl,G7,λb _ e=>World.putObj_heap_other e⟩;exact A.kept k (λb e=>by rw[e];omega)
  have B:Hid ((W.putObj D (.deferred none)).cell? ⟨w.heap.size,0,none⟩=some (.bool true)):=(gG _ E5).trans j;have Z:=Kz J;clear c j J k
  gi_wp2
  exact⟨E9,.inl ⟨_,_,rfl,run_takeDeferred z,_,qp (b:=w.heap.size) (.bool true) _ results83 rfl B.o underlying4 rfl,Says.yes Z.o,q.o⟩⟩
end
theorem sN{P:Program}{h:Array Oper}{rest:List Oper}{e:Oper}{a:Act}{f:NI}{Q:Exit->Act->NI->Prop}(hgd:e.guard=none)(d:TypeId)(x y:Operand)(j:e.op= .store d x y)(c b:Array NJ)(k:a.eval x= .c f.heap.size)(l:a.eval y= .agg b)(hi:(P.info? d).map (·.size)=some b.size)(m:c.size=b.size)(n:b.all (·.oneCell')=true)
  (p:wpList P h Q rest (a.put e.dst undef) (f.alloc (.cells b d))):wpList P h Q (e :: rest) a (f.alloc (.cells c d)):=
 wpList_plain hgd λ_ q=>by
  unfold Oper.wp execOp;simp only[j,k,l,Instr.storeAt,Instr.sureAddr,Sem.run_bind,Sem.run_pure,Result.andThen_ok,run_storeVar_new f d c b hi m n];exact q _ _ p
theorem Tryz.Jo :(prog.info? 3).map (λi=>(i.zero,i.size,i.bytes))=some (some (.a 0),1,8):=F4
theorem iY.new(w:NI)(A:Nat->Nat):iY (w.alloc (.cells (nZ A) 157)) w.heap.size A:=by
 have h:=World.rowIs_alloc w (nZ A) 157 (λi=>jv (A i)) (λi c=>by
  rw[gT] at c;simp[nZ,c])
 rw[gT] at h;exact h
theorem Ik(w:NI)(a b:Nat)(A:Nat->Nat)(left p:Nat)(c:p<60)(d:iY w a A)(h:w.cell? ⟨b,0,none⟩=some (.a (left:Int))):
  Calls prog 203 #[.a (p:Int),.c a,.c b] w λe w'=>e= .returned (.bool (((A p:Nat):Int) == (left:Int)))/\K_ w w':=by
 have f:=d.cell c;unfold jv at f;have i:(p:Int)<60:=E5;go_enter func203,ntmps203
 go_wp2
 go_region
 go_wp2
 go_ret
 exact⟨rfl,(aV _)⟩
def La(A:Nat->Nat)(left:Nat)(l:List Nat)(e:Ending):Prop:=∃k,e= .returned (.a ((k:Nat):Int))/\∃hk:k<l.length,A l[k]=left/\∀j (hj:j<l.length),j<k->A l[j]≠left
theorem xS(w:NI)(s:NH)(y:Nat)(l:List Nat)(m d:Nat)(A:Nat->Nat)(left:Nat)(M:l.length<=60000000)(z:∀p∈l,p<60)(B:d<w.heap.size)(C:sS w s l)(D:iY w m A)(E:w.cell? ⟨d,0,none⟩=some (.a (left:Int)))(F:∃p∈l,A p=left):
  Calls prog 202 #[.slice s l.length y,.func (.func 203) #[] #[.c m,.c d]] w λe w'=>La A left l e/\K_ w w':=by
 go_enter func202,ntmps202
 go_wp2
 go_loopw [8] (λx wr=>∃i:Nat,i<=l.length/\x= .a (i:Int)/\Hid (∀j (f:j<l.length),j<i->A l[j]≠left)/\K_ w wr) (λx _=>l.length-(intOf x).toNat)
 case atStart=>exact⟨0,Mg _,rfl,Kz (λj _ G=>aO G),K_.refl _⟩
 case round=>
  obtain⟨i,N,rfl,n,h⟩:=hrel;by_cases k:i<l.length;rotate_left
  .exfalso
   obtain⟨p,a,H⟩:=F;obtain⟨j,f,rfl⟩:=Ms a;exact n.o j f E5 H
  obtain⟨b,o,I,O,J⟩:=(C.kept h) i k;subst I;obtain⟨p,a⟩:=aj (l.getD i 0);rw[<-a] at J;have q:l[i]=p:=by rw[a];simp[List.getD,k]
  have t:=Kz q;have K:p<60:=z p (by rw[<-q];exact Mq k);have P:(i:Int)<(l.length:Int):=E5;clear a q;go_wp2_with fail
  refine (Ik wr m d A left p K (mG D h) ((h.cell B).trans E)).mono ?_;rintro e Q ⟨rfl,L⟩;have v:=h.trans L;by_cases r:A p=left
  .have c:(((A p:Nat):Int) == (left:Int))=true:=by simp[r]
   rw[c];clear c;go_wp2
   go_ret
   exact⟨⟨i,rfl,k,by rw[t.o];exact r,n.o⟩,v⟩
  .have c:(((A p:Nat):Int) == (left:Int))=false:=F6;rw[c];clear c;go_wp2
   go_roundw
   case rel=>
    refine⟨i+1,E5,F3,Kz (λj f R=>?_),v⟩;rcases Nat.lt_or_ge j i with e | e
    .exact n.o j f e
    .have:j=i:=E5;subst this;rw[t.o];exact r
   case measure=>simp[intOf];omega
def JU(R:Nat->Nat->Prop)(n t:Nat)(w w':NI)(e:Ending):Prop:=∃(av:NH) (cv:Nat) (l:List Nat),e= .returned (.slice av l.length cv)/\sS w' av l/\l.length<=60/\(∀p∈l,p<n)/\(l=[]->∀m,¬ll R t m)/\(l≠[]->∃m,ll R t m/\lD R t m t l/\l.length=m)/\K_ w w'
theorem xJ(w:NI)(n:NH)(D:Nat)(a:List NG)(nb r:Nat)(m back:Nat->List Nat)(E:NG->NG->Prop)(a4:Nat)(t:Nat)(ht:t<a.length)(hn:a.length<=60)(hM:a4<=60000000)(X:uA w n a nb r m back)(s:Cz E a a4 m back):
  Calls prog 175 #[.agg #[.slice n a.length D,.b nb a.length a.length,.b r a.length a.length],.a (t:Int)] w λe w'=>JU (dG E a) a.length t w w' e:=by
 obtain⟨J,F⟩:=aj (w.alloc (.cells #[.slice n a.length D,.b nb a.length a.length,.b r a.length a.length] 93));have k1:K_ w J:=by rw[F];exact ah _ _
 have s0:J.cell? ⟨w.heap.size,0,none⟩=some (.slice n a.length D):=by rw[F];exact X_ w #[.slice n a.length D,.b nb a.length a.length,.b r a.length a.length] 93 0 _ rfl
 have s1:J.cell? ⟨w.heap.size,1,none⟩=some (.b nb a.length a.length):=by rw[F];exact X_ w #[.slice n a.length D,.b nb a.length a.length,.b r a.length a.length] 93 1 _ rfl
 have s2:J.cell? ⟨w.heap.size,2,none⟩=some (.b r a.length a.length):=by rw[F];exact X_ w #[.slice n a.length D,.b nb a.length a.length,.b r a.length a.length] 93 2 _ rfl
 have z1:w.heap.size<J.heap.size:=by rw[F];simp
 go_enter func175,ntmps175
 go_upto_region 1 with fail
 rw[<-F];clear F;go_wp2_with fail
 refine (yh J n D a nb r m back E a4 t ht hn hM (X.kept k1) s).mono ?_;rintro e K ⟨G,size,rfl,hD,i7,Y⟩;have⟨HD,c1⟩:=aH hD s1;clear s0 s1 s2 hD;obtain⟨P,L⟩:=aj (nZ G);have HI:Hid ((prog.info? 157).map (·.size)=some P.size):=by rw[L,gT];exact Tryz.qP
 have f2:Hid ((Array.replicate 60 (Value.int .i64 0)).size=P.size):=by show _=_;rw[L,gT];simp
 have f3:Hid (P.all (·.oneCell')=true):=by rw[L];exact sU G
 obtain⟨c,Q⟩:=aj (K.alloc (.cells P 157));have Z:K_ K c:=by rw[Q];exact ah _ _
 have c2:Hid (iY c K.heap.size G):=by rw[Q,L];exact iY.new K G
 rw[<-L];have M:=(k1.trans Y).trans Z;have c3:w.heap.size<c.heap.size:=Mf z1 (Y.trans Z).size;have c4:=Kz (((Y.trans Z).cell z1).trans c1.o);obtain⟨ab,c5⟩:=aj K.heap.size;have f4:K.heap.size<c.heap.size:=by rw[Q];simp
 have⟨f5,f6⟩:=aH Q c5;clear L Q c5 c1 Z Y k1 z1;go_upto_region 2 with (rw (transparency:= .default) [z60];refine sN rfl 157 (.tmp 5) (.tmp 15) rfl _ P rfl rfl HI.o f2.o f3.o ?_)
 rw[<-f5.o];rw[<-f6.o] at c2 f4⊢;by_cases R:size=0
 .have f7:((size:Int) == 0)=true:=by simp[R]
  have f8:=Kz (HD.o.no R);clear R;go_wp2
  go_ret
  exact⟨none,0,[],rfl,λi hi=>aO hi,Mg _,λp v=>(by cases v),λ_=>f8.o,λh=>Nv rfl h,M⟩
 have f7:((size:Int) == 0)=false:=F6;obtain⟨a5,c6⟩:=HD.o.yes R;have⟨c7,c8⟩:=aH a5 c6;have i8:1<=size:=a5.1;clear a5 c6 R;obtain⟨d,S⟩:=aj (c.alloc (.cells #[.a (t:Int)] 3));have kB:K_ c d:=by rw[S];exact ah _ _
 have a0:Hid (c.heap.size+1=d.heap.size):=by show _=_;rw[S];simp
 have a6:d.ownsRow c.heap.size 3 1 (.b c.heap.size 1 1) [t].length ([t].map jv):=by
  rw[S];exact⟨rfl,.inr ⟨c.heap.size,1,_,rfl,Me _,heap_alloc_new c _,Me _,F5,rfl,rfl⟩⟩
 obtain⟨WC,T⟩:=aj (d.alloc (.cells #[.a (size:Int)] 3));have kC:K_ d WC:=by rw[T];exact ah _ _
 have a7:Hid (aD WC d.heap.size 3 1):=by rw[T];exact aD.made d #[.a (size:Int)] 3
 have a8:Hid (WC.cell? ⟨d.heap.size,0,none⟩=some (.a (size:Int))):=by rw[T];exact X_ d #[.a (size:Int)] 3 0 _ rfl
 have b0:=Kz (ak a6 kC);have d0:=Kz (kB.trans kC);have⟨d1,d2,f9⟩:=dF S T a6;clear S T a6 kB kC;go_upto_region 6 with fail
 rw[<-d1.o,<-d2.o,a0.o];have N:Hid (c.heap.size<=d.heap.size/\∀f,(Value.slice (some ⟨c.heap.size,0,none⟩) [t].length 1).ownBlock=some f->f≠d.heap.size):=⟨by have:=a0.o;omega,λf e=>by simp only[Value.ownBlock,MV] at e;have:=a0.o;omega⟩;obtain⟨oa,b1⟩:=aj c.heap.size;obtain⟨k,d3⟩:=aj d.heap.size;rw[<-b1] at b0 N⊢;rw[<-d3] at N a7 a8⊢;have b2:=Kz b1;clear b1 d3 f9 a0 d1 d2;go_wp2
 go_loopg [7,8,9] size (λgg x7 x8 x9 wr=>∃(l:List Nat) (b k:Nat) (z:NH) (H:Nat),x7= .slice z l.length H/\x8= .a (b:Int)/\x9= .c k/\Hid (pY (dG E a) t size l b gg)/\Hid (∀p∈l,p<a.length)/\Hid (wr.ownsRow oa 3 1 (.slice z l.length H) l.length (l.map jv))/\Hid (aD wr k 3 1)/\Hid (wr.cell? ⟨k,0,none⟩=some (.a (gg:Int)))/\Hid (oa<=k/\∀f,(Value.slice z l.length H).ownBlock=some f->f≠k)/\Hid (K_ c wr))
 case atStart=>exact⟨[t],t,k,_,1,rfl,rfl,rfl,Kz (pY.start c7.o),Kz (λp v=>by rw[Mm] at v;rw[v];exact ht),b0,a7,a8,N,d0⟩
 case round=>
  clear b0 a7 a8 N d0;obtain⟨l,b,k,z,H,rfl,rfl,rfl,A,b3,HO,a1,a2,N,I⟩:=hrel;have cl:=a2.o;have g0:=A.o.pos;have g1:=A.o.len;by_cases b4:gk=1
  .have i9:¬((1:Int)<(gk:Int)):=E5;have g2:Hid (lD (dG E a) t size t l):=by have h:=A.o;rw[b4] at h;exact h.done
   have d4:Hid (l.length=size):=by show l.length=size;omega
   have g3:Hid (l≠[]):=by obtain⟨l0,e⟩:=A.o.last;show l≠[];rw[e];simp
   have g4:Hid (sS wr z l):=by
    obtain⟨a9,c9,e9,_,h9⟩:=wH HO.o rfl;simp only[MW,true_and] at e9;rw[<-e9.1] at h9;exact h9
   clear b4 g1 g0;go_wp2
   go_ret
   exact⟨z,H,l,rfl,g4.o,by have:=d4.o;omega,b3.o,λe=>Nv e g3.o,λ_=>⟨size,c7.o,g2.o,d4.o⟩,M.trans I.o⟩
  have j0:1<=l.length:=by obtain⟨l0,e⟩:=A.o.last;rw[e];simp
  have j1:(1:Int)<(gk:Int):=E5;obtain⟨q,hq⟩:∃q,gk=q+1:=⟨gk-1,E5⟩;have g5:1<=q:=E5;have HQ:=Kz hq;have g6:b<a.length:=b3.o b (by obtain⟨l0,e⟩:=A.o.last;rw[e];simp);obtain⟨da,dc,b5,d5⟩:=X.fwd b g6;have g7:Hid (∃p∈m b,G p=gk):=by
   obtain⟨y,h1,h2⟩:=A.o.more E5;exact⟨y,(s.fwd b y).2 h1,by have:=(c8.o y (gk-1) E5).2 h2;omega⟩
  have g8:(m b).length<=60000000:=Mh (s.len b).1 hM;have g9:Hid (∀p∈m b,p<60):=λp v=>by have:=((s.fwd b p).1 v).2.1;omega
  have q1:=(I.o.cell c3).trans c4.o;have q2:=((M.trans I.o).cell X.nbl).trans b5;have j2:(b:Int)<(a.length:Int):=E5;have⟨d6,h0⟩:=aH d5 b5;clear hq b4 d5 b5;go_wp2_with fail
  refine (xS wr da dc (m b) ab k G gk g8 g9.o a1.o.lt (d6.o.kept (M.trans I.o)) (mG c2.o I.o) a2.o g7.o).mono ?_;rintro e B ⟨⟨a3,rfl,O,d7,d8⟩,U⟩;have V:=Kz (I.o.trans U);obtain⟨x,hx⟩:=aj ((m b)[a3]);have h3:Hid (Ae (λy=>dG E a b y/\Far (dG E a) t q y) x):=by
   have h4:=HQ.o;rw[hx];have d9:∀y,G y=gk↔Far (dG E a) t q y:=λy=>by rw[h4];exact c8.o y q E5
   exact Ay (p:=λy=>dG E a b y/\Far (dG E a) t q y) (s.asc b) (λy hy=>(s.fwd b y).2 hy.1) O ⟨(s.fwd b _).1 (Mq O),(d9 _).1 d7⟩ (λj hj h5 h=>d8 j hj h5 ((d9 _).2 h.2))
  have h6:x<a.length:=by have:=((s.fwd b x).1 (by rw[hx];exact Mq O)).2.1;exact this
  obtain⟨eb,eo,e1,j3,h7⟩:=(d6.o.kept (M.trans V.o)) a3 O;subst e1;have e0:(m b).getD a3 0=x:=by rw[hx];simp[List.getD,O]
  rw[e0] at h7;have j4:(a3:Int)<((m b).length:Int):=E5;have q1:=(V.o.cell c3).trans c4.o;have q2:=((M.trans V.o).cell X.nbl).trans h0.o;clear hx e0 d7 d8 O cl;have e2:=(U.cell a1.o.lt).trans a2.o;have e3:=Kz (ak HO.o U);have b6:=Kz (a1.o.kept U);obtain⟨ic,h8,i0,i1,i2⟩:=info_parts Tryz.Jo;have W:K_ B (B.alloc (.cells #[.a (x:Int)] 3)):=ah _ _;have b7:=Kz (ak e3.o W);have b8:=Kz (V.o.trans W);have e4:oa<=(B.alloc (.cells #[.a (x:Int)] 3)).heap.size:=by rw[b2.o];exact b8.o.size
  have e5:Hid (∀j u,([.a (x:Int)]:List NJ)[j]? =some u->(B.alloc (.cells #[.a (x:Int)] 3)).cell? ((⟨B.heap.size,0,none⟩:Addr).add j)=some u):=λj u hu=>by rw[MZ];exact X_ B #[.a (x:Int)] 3 j u hu
  have e6:Hid (∀u∈([.a (x:Int)]:List NJ),u.oneCell'=true):=λu hu=>by simp only[Na,Nb,or_false] at hu;subst hu;rfl
  have e7:=Kz (b6.o.kept W);have e8:=Kz ((W.cell b6.o.lt).trans e2);have j5:l.length<=60:=E5;clear e2 U;go_upto_region 11 with (at_builtin;refine wpList_append_own _ rfl (.tmp 42) (.tmp 44) 27 rfl oa 3 ic _ 1 8 underlying27 h8 i0 i1 i2 rfl E8 (.slice z l.length H) l.length (l.map jv) rfl b7.o ⟨B.heap.size,0,none⟩ 1 1 [.a (x:Int)] rfl rfl e5.o e6.o F5 E5 e4 ?_;intro v' C b9 c0 _)
  have KP:Hid (K_ c C):=aK b8.o (by rw[b2.o];exact Me _) b7.o c0;have kg:But (λf=>(Value.slice z l.length H).ownBlock=some f) (B.alloc (.cells #[.a (x:Int)] 3)) C:=But.aI c0 (λf e=>e);have f0:=e7.o.lt;have j6:C.cell? ⟨k,0,none⟩=some (.a (gk:Int)):=(kg.cell f0 (λe=>N.o.2 k e rfl)).trans e8.o;have f1:=Kz b9;obtain⟨i3,i4,rfl⟩:=ay b9;clear b9 c0 kg f0 e7 e8 e5 e6 b7 b8 e4 W b6 e3 HO a1 a2 I V;have i5:Hid (pY (dG E a) t size l b (q+1)):=by have h:=A.o;rw[HQ.o] at h;exact h
  have i6:Hid ((gk:Int)-1= (q:Int)):=by show _=_;have:=HQ.o;omega
  go_wp2_with fail
  rw[i6.o];have k8:K_ C (C.alloc (.cells #[.a (q:Int)] 3)):=ah _ _;go_roundg q
  case measure=>have:=HQ.o;omega
  case rel=>
   refine⟨l++ [x],x,C.heap.size,i3,i4,by rw[MU];rfl,rfl,rfl,Kz (i5.o.next g5 h3.o),Kz (λp v=>?_),Kz ?_,Kz (aD.made C #[.a (q:Int)] 3),Kz (X_ C #[.a (q:Int)] 3 0 _ rfl),Kz ⟨?_,λf e=>?_⟩,Kz (KP.out.trans k8)⟩
   .rcases Mo.1 v with h|h
    .exact b3.o p h
    .rw[Mm] at h;rw[h];exact h6
   .rw[MU,Ny];exact ak f1.o k8
   .rw[b2.o];exact KP.out.size
   .rw[MU] at e;have:=(f1.o.lt f e).2;omega
def Gq(R:Nat->Nat->Prop)(n:Nat)(w w':NI)(e:Ending):Prop:=∃(av:NH) (cv:Nat) (best:List Nat),e= .returned (.slice av best.length cv)/\sS w' av best/\best.length<=60/\(∀p∈best,p<n)/\jm R n best/\K_ w w'
theorem Dg(w:NI)(d:NH)(j:Nat)(a:List NG)(nb f:Nat)(z back:Nat->List Nat)(E:NG->NG->Prop)(M:Nat)(hn:a.length<=60)(hM:M<=60000000)(hV:uA w d a nb f z back)(hR:Cz E a M z back):
  Calls prog 133 #[.agg #[.slice d a.length j,.b nb a.length a.length,.b f a.length a.length]] w λe w'=>Gq (dG E a) a.length w w' e:=by
 obtain⟨q,k⟩:=aj (w.alloc (.cells #[.slice d a.length j,.b nb a.length a.length,.b f a.length a.length] 93));have R:K_ w q:=by rw[k];exact ah _ _
 have S:Hid (∀u,K_ q u->u.cell? ⟨w.heap.size,0,none⟩=some (.slice d a.length j)/\u.cell? ⟨w.heap.size,1,none⟩=some (.b nb a.length a.length)/\u.cell? ⟨w.heap.size,2,none⟩=some (.b f a.length a.length)):=λu A=>by
  have B:w.heap.size<q.heap.size:=by rw[k];simp
  have r:=X_ w #[.slice d a.length j,.b nb a.length a.length,.b f a.length a.length] 93;rw[<-k] at r;exact⟨(A.cell B).trans (r 0 _ rfl),(A.cell B).trans (r 1 _ rfl),(A.cell B).trans (r 2 _ rfl)⟩
 go_enter func133,ntmps133
 go_upto_region 1 with fail
 rw[<-k];clear k;obtain⟨C,D,F⟩:=S.o _ (K_.refl _);go_wp2_with fail
 clear C D F;go_loopw [3,9] (λx3 G wr=>∃(i:Nat) (b:List Nat) (h:NH) (m:Nat),i<=a.length/\G= .a (i:Int)/\x3= .slice h b.length m/\b.length<=60/\Hid (sS wr h b)/\Hid (∀T∈b,T<a.length)/\Hid (jm (dG E a) i b)/\K_ q wr) (λ_ G _=>a.length-(intOf G).toNat)
 case atStart=>exact⟨0,[],none,0,Mg _,rfl,rfl,Mg _,Kz (λi U=>aO U),Kz (λT hp=>by cases hp),Kz (jm.start _),K_.refl _⟩
 case round=>
  obtain⟨i,b,h,m,U,rfl,rfl,H,I,J,n,s⟩:=hrel;by_cases a5:i<a.length;rotate_left
  .have a6:i=a.length:=E5;subst a6;go_wp2
   go_ret
   exact⟨h,m,b,rfl,I.o,H,J.o,n.o,R.trans s⟩
  obtain⟨C,D,F⟩:=S.o _ s;have b1:(i:Int)<(a.length:Int):=E5;go_wp2_with fail
  refine (xJ wr d j a nb f z back E M i a5 hn hM (hV.kept (R.trans s)) hR).mono ?_;rintro e w2 ⟨V,W,l,rfl,X,Y,Z,a0,a1,K⟩;have⟨a2,a3⟩:=aH X Z;have a4:=Kz (I.o.kept K);have t:=s.trans K;have⟨a7,a8⟩:=aH a0 a1;clear C D F X Z a0 a1 I K;by_cases v:l.length=0
  .have hg:¬((0:Int)<(l.length:Int)):=E5;have L:Hid (jm (dG E a) (i+1) b):=n.o.skip (λx N=>Nv N (a7.o (Mw.1 v) x));clear v;go_wp2
   go_roundw
   case rel=>exact⟨i+1,b,h,m,E5,F3,rfl,H,a4,J,L,t⟩
   case measure=>simp[intOf];omega
  have hg:(0:Int)<(l.length:Int):=E5;have O:=Kz (a8.o (λe=>v (by rw[e];rfl)));clear v;by_cases c:b.length=0
  .have a9:((b.length:Int) == 0)=true:=by simp[c]
   have P:Hid (jm (dG E a) (i+1) l):=by
    obtain⟨x,p,Q,y⟩:=O.o;exact n.o.take p Q y (.inl (Mw.1 c))
   clear c;go_wp2
   go_roundw
   case rel=>exact⟨i+1,l,V,W,E5,F3,rfl,Y,a2,a3,P,t⟩
   case measure=>simp[intOf];omega
  have a9:((b.length:Int) == 0)=false:=by simp;exact λe=>c (by rw[e];rfl)
  by_cases b2:l.length<b.length
  .have b0:(l.length:Int)<(b.length:Int):=E5;have P:Hid (jm (dG E a) (i+1) l):=by
    obtain⟨x,p,Q,y⟩:=O.o;exact n.o.take p Q y (.inr E5)
   clear c;go_wp2
   go_roundw
   case rel=>exact⟨i+1,l,V,W,E5,F3,rfl,Y,a2,a3,P,t⟩
   case measure=>simp[intOf];omega
  .have b0:¬((l.length:Int)<(b.length:Int)):=E5;have L:Hid (jm (dG E a) (i+1) b):=n.o.skip (λx N=>by
    obtain⟨m',p,_,y⟩:=O.o;have:=p.unique N;exact⟨λe=>c (by rw[e];rfl),E5⟩)
   clear c;go_wp2
   go_roundw
   case rel=>exact⟨i+1,b,h,m,E5,F3,rfl,H,a4,J,L,t⟩
   case measure=>simp[intOf];omega
def Ht(E:NG->NG->Prop)(w w':NI)(e:Ending):Prop:=
 ∃(da:NH) (ns:List NG),e= .returned (.slice da ns.length ns.length)/\bX w' w.heap.size w'.heap.size da ns/\ns.length<=60/\yK E ns/\K_ w w'
theorem Bf(w:NI)(t:Nat)(l:NG->Prop)(c:NG->List NG)(all:List NG)(F:∀s,l s->s∈all)(G:all.length<=60)(H:∀s,l s->s.size<=20)(Y:∀s,(c s).length<=1000000)(I:xE w t l c):
  Calls prog 84 #[.map (some t)] w λe w'=>Ht (λx y=>y∈c x) w w' e:=by
 go_enter func84,ntmps84
 go_wp2_with fail
 refine (CO w t l c all F G H Y I).mono ?_;rintro e d ⟨f,i,a,m,n,Z,a0,back,rfl,v,p,J,L,hM,M⟩;have a1:a.length<=60:=by
  refine Mh (List.Nodup.length_le_of_subset ?_ (λx hx=>F x ((p x).1 hx))) G;exact v.imp λ{b2 b3} a2=>dJ a2
 have a3:Hid (iR (λx y=>y∈c x) a):=⟨v,λx y N=>(p x).2 (I.sub x (λe=>by rw[e] at N;cases N))⟩;have a4:Hid (∀s∈a,s.size<=1048576):=λs hs=>by have:=H s ((p s).1 hs);omega
 have O:=Kz L;obtain⟨z,j⟩:=aj (d.alloc (.cells #[.slice f a.length i,.b m a.length a.length,.b n a.length a.length] 93));have A:K_ d z:=by rw[j];exact ah _ _
 obtain⟨B,C⟩:=aj d.heap.size;have q:Hid (∀u,K_ z u->u.cell? ⟨B,0,none⟩=some (.slice f a.length i)/\u.cell? ⟨B,1,none⟩=some (.b m a.length a.length)/\u.cell? ⟨B,2,none⟩=some (.b n a.length a.length)):=λu k=>by
  have D:d.heap.size<z.heap.size:=by rw[j];simp
  have h:=X_ d #[.slice f a.length i,.b m a.length a.length,.b n a.length a.length] 93;rw[<-j] at h;rw[C];exact⟨(k.cell D).trans (h 0 _ rfl),(k.cell D).trans (h 1 _ rfl),(k.cell D).trans (h 2 _ rfl)⟩
 have P:=Kz (J.kept A);have a5:=Kz (M.trans A);have⟨a6,a7⟩:=aH j C;clear v p J L M A j C;go_upto_region 2 with fail
 rw[<-a6.o,<-a7.o];refine bC 4 q.o λwd Q E=>?_
 refine ae 0 E ?_;refine ae 1 E ?_;refine aG 2 (λK b=>?_);go_simp
 go_at_call 133
 refine (Dg wd f i a m n a0 back _ Z a1 hM (P.o.kept Q) O.o).mono ?_;rintro e w3 ⟨pa,pc,R,rfl,S,a8,T,U,k3⟩;have r:=Q.trans k3;have⟨a9,b0,b1⟩:=dF S U T;clear S U T;dsimp only;refine af b (λ_=>q.o _ r) ?_;clear b K E;refine aG 3 (λK b=>?_);go_simp
 go_at_call 42
 refine (Ip w3 f i a _ _ rfl rfl pa pc R b1.o E5 E5 a4.o (P.o.kept r).names a9.o).mono ?_;rintro e w4 ⟨da,rfl,V,W⟩;have K4:=r.trans W;have HT:=Kz V;have X:=Kz (a5.o.trans r);clear V;dsimp only;refine af b (λ_=>q.o _ K4) ?_;clear b K;refine ai 4 (λK b=>?_);go_simp
 refine af b (λh=>Nv rfl h) ?_;clear b K;refine aF ?_;clear q O;go_wp2
 go_ret
 refine⟨da,R.map (nameOf a),by rw[Nn];rfl,HT.o.mono X.o.size (Me _),by rw[Nn];exact a8,b0.o.Lm a3.o,X.o.trans W⟩
def Er(P:uN->Prop)(w w':NI)(e:Ending):Prop:=
 ∃(o:uN) (a f:NH) (c e0 mid:Nat),e= .returned (.agg #[.a o.code,.slice a o.res.length c,.slice f o.chain.length e0,.a o.eF,.a o.cost])/\P o/\il w' w.heap.size mid a o.res/\bX w' mid w'.heap.size f o.chain/\w.heap.size<=mid/\mid<=w'.heap.size/\K_ w w'
theorem jL{w:NI}{lo hi g:Nat}{vs:List NJ}{a:NH}{l:List fC}(h:il w lo hi a l)(c:g<lo\/hi<=g):il (w.setCells g 0 vs) lo hi a l:=h.same (Same.setCells c vs 0 w)
theorem rO{w:NI}{lo hi g:Nat}{vs:List NJ}{a:NH}{l:List NG}(h:bX w lo hi a l)(c:g<lo\/hi<=g):bX (w.setCells g 0 vs) lo hi a l:=h.same (Same.setCells c vs 0 w)
section
variable {G : bQ} {Kq : List Qz} {wz w w' : NI} {bb : Nat} {a : NH} {cap : Nat} {rd : NH} {rc : Nat} {mb mx : Nat} {ts : List Zk} {d : NH} {dc : Nat} {f : NG -> NJ} {ws : NG -> List Nat}
theorem xY(Kj:List NG)(l:List Q_)(hB:BM G Kq wz w bb a cap rd Kj.length rc mb mx ts d dc f ws)(e9:BS Kq ts ws)(k4:mx<=9000)(L:dU Kq Kj l)(c5:Qj ts=l)(hR:Strs w rd Kj):
  Calls prog 34 #[.c bb] w λe w'=>Er (nA Kq Kj l) w w' e:=by
 have⟨y,b4,a6,M,c6⟩:=iZ hB e9 L c5 L.good;have b5:=cO L.1;have c7:=y.o.len (lH L.1);have k5:l.length<=60:=Mh L.good.len (lH L.1);have c8:Kj.length<=10:=L.2.1.2.1;have f2:Hid (∀A∈Kj,A.size<=20):=λA N=>by
  obtain⟨n,hi,rfl⟩:=Ms N;have p:=(L.2.1.2.2 n hi).1.2.1;simpa[List.getD,hi] using p
 have d0:Hid (∀A∈Kj,(∃P∈ts,P.r.name=A)\/Kk Kq A=none):=λA N=>by
  rcases L.Ka A N with⟨r,h1,f3⟩|h1
  .rw[<-c5] at h1;obtain⟨P,ht,e⟩:=MH.1 h1;exact .inl ⟨P,ht,by rw[e];exact f3⟩
  .exact .inr h1
 have n4:=y.o.row.lt;clear hB e9 L c5;obtain⟨W0,a7⟩:=aj (w.alloc (.cells #[.a 0,M0,M0,.a 0,.a 0] 43));have k0:K_ w W0:=by rw[a7];exact ah _ _
 have z0:W0.heap.size=w.heap.size+1:=by rw[a7];simp
 have f4:Hid (aD W0 w.heap.size 43 5):=by rw[a7];exact aD.made w _ _
 have k6:=(y.o.kept k0).c2;go_enter func34,ntmps34
 go_upto_region 1 with fail
 rw[<-a7];clear a7;go_wp2_with fail
 refine (xW (y.o.kept k0) (by rw[M.o];exact a6.o.L_) E5 rd rc Kj E5 (λA N=>⟨by have:=f2.o A N;omega,d0.o A N⟩) (λA N=>by rw[M.o];have:=Fp c6.o (f2.o A N);omega) (hR.kept k0)).mono ?_;rintro e w1 ⟨i,rfl,d1,k1⟩;obtain⟨a0,d2⟩:=aj (sV (Kk Kq) (Qq l));rw[M.o,<-d2] at d1;obtain⟨b,a3⟩:=aj w1.heap.size;obtain⟨v,a4⟩:=aj (w1.alloc (.cells #[.a 0,.slice i Kj.length Kj.length,M0,.a 0,.a 0] 43));have k2:K_ w1 v:=by rw[a4];exact ah _ _
 have f5:Hid (gZ v b v 0 (.slice i Kj.length Kj.length) 0 0):=by
  obtain⟨q0,q1,q2,q3,q4⟩:=yP (w:=w1) (w1:=v) (v0:= .a 0) (v1:= .slice i Kj.length Kj.length) (v2:= M0) (v3:= .a 0) (v4:= .a 0) (t:=43) (by rw[a4];exact K_.refl _);rw[<-a3] at q0 q1 q2 q3 q4;exact⟨But.ax (K_.refl _),by rw[a4,a3];exact aD.made w1 _ _,q0,q1,q2,q3,q4⟩
 have n5:b<v.heap.size:=by rw[a4,a3];simp
 have n6:=k1.size;have n7:w.heap.size+1<=b:=E5;have f6:Hid (il v W0.heap.size b i (Kj.map a0)):=by rw[a3];exact d1.same (k2.same _ _)
 have d3:=k0.trans (k1.trans k2);have f7:=Kz (f4.o.kept (k1.trans k2));have d4:=Kz d2;have HC:Hid (∀u,But (λj=>j=b) v u->K_ w u/\aD u w.heap.size 43 5/\il u W0.heap.size b i (Kj.map a0)/\v.heap.size<=u.heap.size):=λu p=>⟨p.kept d3 (λj e=>by rw[e];omega),p.row f7.o (λ(e:w.heap.size=b)=>E5),f6.o.same (λj h1 f3 _=>p.block j E5 (λ(e:j=b)=>E5)),p.size⟩
 have c3:=(y.o.kept d3).c3;have n8:bb<v.heap.size:=E5;go_upto_region 2 with fail
 rw[<-a4,<-a3];clear a4 a3 k2 k1 f6 d2 d1 f4 f7 k6 d3;have f8:Hid (0=dK (l.take 0)/\0=fO (Kk Kq) (l.take 0)):=⟨rfl,rfl⟩;have n9:¬b=bb:=E5;go_wp2
 go_loopw [20] (λd5 wr=>∃(n:Nat) (h c:Int),n<=ts.length/\d5= .a (n:Int)/\Hid (h=dK (l.take n)/\c=fO (Kk Kq) (l.take n))/\Hid (gZ v b wr 0 (.slice i Kj.length Kj.length) h c)) (λd5 _=>ts.length-(intOf d5).toNat)
 case atStart=>exact⟨0,0,0,Mg _,rfl,f8,f5⟩
 case round=>
  clear f8 f5 c3;obtain⟨n,h,c,hi,rfl,HU,B⟩:=hrel;obtain⟨Kr,f9,g0,o5⟩:=HC.o wr B.o.but;have⟨g1,d0,g2⟩:=dF Kr f9 g0;clear Kr f9 g0;have g3:=JZ b5 c6.o k5 n;rw[<-HU.o.1,<-HU.o.2] at g3;have a8:(Qj ts).length=ts.length:=by simp[Qj]
  by_cases a1:n<ts.length
  .have o6:(n:Int)<(ts.length:Int):=E5;obtain⟨g,d6,d7⟩:=(y.o.kept g1.o).item a1;have o7:g<w.heap.size:=by
    obtain⟨g',g4,_⟩:=y.o.item a1;rw[d6] at g4;cases g4;exact (y.o.items.lt g (by rw[d6];rfl)).2
   subst d6;obtain⟨q,b6⟩:=aj (ts[n]);rw[<-b6] at d7;have b7:q∈ts:=by rw[b6];exact Mq a1
   have hT:=(y.o.kept g1.o).fu q b7;have a9:=(y.o.fu q b7).row.lt;have t5:=hT.rng 5 _ rfl;have t7:=hT.rng 7 _ rfl;simp only[MM] at t5 t7;have d8:l[n]'(by rw[<-M.o,a8];exact a1)=q.r:=by
    have p:(Qj ts)[n]'(by rw[a8];exact a1)=q.r:=by rw[b6];simp[Qj]
    rw[<-p]
    congr 1
    exact M.o.symm
   have d9:n<l.length:=by rw[<-M.o,a8];exact a1
   have g5:q.r∈l:=by rw[<-d8];exact Mq d9
   have e0:=c6.o.good q.r g5;have hA:=((y.o).act q b7).1;have e1:jw (Kk Kq) q.r.name=q.cost:=by rw[uu hA]
   have e2:=tN b5 q.r.name;rw[e1] at e2;have g6:0<=q.r.Zq/\q.r.Zq<=20:=⟨e0.lo,e0.hi⟩;have k7:=Ig g6 e2;have g7:Hid (h+q.r.Zq=dK (l.take (n+1))/\c+q.r.Zq*q.cost=fO (Kk Kq) (l.take (n+1))):=by
    rw[Ml d9,uj,vR,d8,<-HU.o.1,<-HU.o.2,e1];exact⟨rfl,rfl⟩
   obtain⟨T,b0⟩:=aj q.tb;obtain⟨x,b8⟩:=aj q.r.Zq;obtain⟨Q,b9⟩:=aj q.cost;have k8:wr.cell? ⟨g,n,none⟩=some (.c T):=by rw[b0];exact d7
   rw[<-b0,<-b8] at t5;rw[<-b0,<-b9] at t7;rw[<-b0] at a9;rw[<-b8,<-b9] at g7 k7;rw[<-b8] at g6;rw[<-b9] at e2;have o8:IntKind.i64.wrap (h+x)=h+x:=fV E5 E5;have o9:IntKind.i64.wrap (x*Q)=x*Q:=fV E5 E5;have p0:IntKind.i64.wrap (c+x*Q)=c+x*Q:=fV E5 E5;have g8:=B.o.row.lt;have e3:Hid (∀u:NI,(∀j,j<w.heap.size\/j=b->u.heap[j]? =wr.heap[j]?)->u.cell? ⟨b,3,none⟩=some (.a h)/\u.cell? ⟨b,4,none⟩=some (.a c)/\u.cell? ⟨T,5,none⟩=some (.a x)/\u.cell? ⟨T,7,none⟩=some (.a Q)):=λu R=>⟨(Mt (w:=wr) (R b (.inr rfl))).trans B.o.c3,(Mt (w:=wr) (R b (.inr rfl))).trans B.o.c4,(Mt (w:=wr) (R T (.inl a9))).trans t5,(Mt (w:=wr) (R T (.inl a9))).trans t7⟩
   have p1:g<wr.heap.size:=E5;have p2:¬b=T:=E5;clear d7 hT t5 t7 d8 d9 g5 e0 hA e1 b9 b8 b0 b6 b7;go_upto_region 5 with fail
   refine rY 9 e3.o (λ_ _=>rfl) λwd O C=>?_
   obtain⟨⟨_,e4⟩,e5⟩:=(B.o.kept O).row.row.at (i:=3) E5;have e6:=(B.o.kept O).row.lt;refine au 0 C ?_;refine au 4 C ?_;refine ae 8 C ?_;refine ai 9 (λe7 hK=>?_);go_simp
   refine af hK (λp=>Nv rfl p) ?_;clear hK e7;refine aF ?_;clear e5 e4 e6;obtain⟨W5,b1⟩:=aj (wd.setCell ⟨b,3,none⟩ (.a (h+x)));rw[<-b1];have D:Hid (gZ v b W5 0 (.slice i Kj.length Kj.length) (h+x) c):=by rw[b1];exact (B.o.kept O).Ma _
   have l0:Hid (∀j,j≠b->j<wr.heap.size->W5.heap[j]? =wr.heap[j]?):=λj hb hz=>by rw[b1,Below.heap_setCell _ _ _ _ hb];exact O.block j hz
   have l1:Hid (∀u:NI,(∀j,j<w.heap.size\/j=b->u.heap[j]? =W5.heap[j]?)->u.cell? ⟨b,4,none⟩=some (.a c)/\u.cell? ⟨T,5,none⟩=some (.a x)/\u.cell? ⟨T,7,none⟩=some (.a Q)):=λu R=>by
    have ho:=e3.o wr (λ_ _=>rfl);have g9:∀j o,j<w.heap.size->u.cell? ⟨j,o,none⟩=wr.cell? ⟨j,o,none⟩:=λj o hb=>(Mt (w:=W5) (R j (.inl hb))).trans (Mt (w:=wr) (l0.o j E5 E5))
    exact⟨(Mt (w:=W5) (R b (.inr rfl))).trans D.o.c4,(g9 _ _ a9).trans ho.2.2.1,(g9 _ _ a9).trans ho.2.2.2⟩
   have p3:wr.heap.size<=W5.heap.size:=by rw[b1,size_setCell];exact O.size
   clear b1 O B e3 C k8;clear wd;go_upto_region 6 with fail
   refine rY 15 l1.o (λ_ _=>rfl) λwd O C=>?_
   obtain⟨⟨_,e4⟩,e5⟩:=(D.o.kept O).row.row.at (i:=4) E5;have e6:=(D.o.kept O).row.lt;refine au 0 C ?_;refine au 4 C ?_;refine au 8 C ?_;refine ae 12 C ?_;refine ae 13 C ?_;refine ae 14 C ?_;refine ai 15 (λe7 hK=>?_);go_simp
   refine af hK (λp=>Nv rfl p) ?_;clear hK e7;refine aF ?_;have t:Hid (gZ v b (wd.setCell ⟨b,4,none⟩ (.a (c+x*Q))) 0 (.slice i Kj.length Kj.length) (h+x) (c+x*Q)):=(D.o.kept O).Md _;clear e5 e4 e6 C;go_wp2
   go_roundw
   case rel=>exact⟨n+1,h+x,c+x*Q,E5,F3,g7,t⟩
   case measure=>simp[intOf];omega
  .have p4:¬((n:Int)<(ts.length:Int)):=E5;have h0:n=l.length:=by rw[<-M.o,a8];omega
   have a5:Hid (h=dK l/\c=fO (Kk Kq) l):=by have p:=HU.o;rw[h0,MN] at p;exact p
   have U:Hid ((Kj.map a0).length=Kj.length):=by show _=_;rw[Nn]
   have o1:=B.o.c1;have g8:=B.o.row.lt;clear a1 h0 HU hi a8 g3;go_wp2_with fail
   have e8:=vW wr i Kj.length (Kj.map a0) (by rw[U.o];omega) g2.o.ress;rw[U.o] at e8;refine e8.mono ?_;clear e8;rintro e w5 ⟨V,l2⟩;have D:=Kz (B.o.kept l2);obtain⟨h2,h3,h4,l3⟩:=HC.o w5 D.o.but;have⟨h5,l4,l5⟩:=dF h2 h3 h4;clear h2 h3 h4 B d0 g2 o1 g8;have l6:=D.o.row.lt;rcases V.cases with⟨rfl,h6⟩|⟨rfl,h7⟩;rotate_left
   .have l7:=Kz h7;have b2:Hid (nA Kq Kj l ⟨0,Kj.map a0,[],h,c⟩):=⟨⟨by rw[U.o];exact c8,Mg _⟩,.inl ⟨a6.o,⟨by rw[d4.o],a5.o.1,a5.o.2,.inl ⟨l7.o,rfl,rfl⟩⟩⟩⟩;have o0:=D.o.c0;obtain⟨⟨_,f0⟩,f1⟩:=D.o.row.row.at (i:=0) E5;obtain⟨E,H⟩:=aj (w5.setCell ⟨b,0,none⟩ (.a 0));have t:Hid (gZ v b E 0 (.slice i Kj.length Kj.length) h c):=by rw[H];exact D.o.set0 0
    clear h7 V;go_upto_region 14 with fail
    rw[<-H];clear H f0 f1 o0;have o0:=t.o.c0;have o1:=t.o.c1;have o2:=t.o.c2;have o3:=t.o.c3;have o4:=t.o.c4;obtain⟨W,X,Y,h8⟩:=HC.o E t.o.but;have⟨a2,I,b3⟩:=dF W X Y;have Z:=t.o.row.lt;clear W X Y;obtain⟨⟨⟨_,h9⟩,i0⟩,⟨⟨_,i1⟩,i2⟩,⟨⟨_,i3⟩,i4⟩,⟨⟨_,i5⟩,i6⟩,⟨_,i7⟩,i8⟩:=I.o.row.yH;have i9:=I.o.lt;have j0:¬b=w.heap.size:=E5;go_wp2
    have hX:=Mi E w.heap.size 0 [.a 0,.slice i Kj.length Kj.length,M0,.a h,.a c] (I.o.row.there (o:=0) (m:=5) (Me _));refine Zx [.a 0,.slice i Kj.length Kj.length,M0,.a h,.a c] _ results34 rfl hX underlying43 rfl Tryz.dN rfl ⟨_,i,none,Kj.length,0,b, ?_,b2.o, ?_, ?_,E5, ?_, ?_⟩
    .show Ending.returned _=Ending.returned _;rw[U.o];try rfl
    .exact (jL (vs:=[.a 0,.slice i Kj.length Kj.length,M0,.a h,.a c]) b3.o (.inl E5)).mono E5 (Me _)
    .exact .inl rfl
    .exact Mh (Nat.le_of_lt Z) (MI (size_setCells w.heap.size [.a 0,.slice i Kj.length Kj.length,M0,.a h,.a c] 0 E).symm)
    .exact bA (Me _) [.a 0,.slice i Kj.length Kj.length,M0,.a h,.a c] 0 a2.o
   have j1:=Kz h6;clear h6 V;go_wp2_with fail
   refine (AX (y.o.kept h5.o) b4.o c7).mono ?_;rintro e w6 ⟨V,l8⟩;rw[M.o] at V;have t:=Kz (D.o.kept l8);have Z:=t.o.row.lt;have o0:=t.o.c0;obtain⟨⟨_,f0⟩,f1⟩:=t.o.row.row.at (i:=0) E5;clear D l6 h5 l4 l5 l3;rcases V.cases with⟨rfl,j2⟩|⟨rfl,j3⟩
   .have l9:=Kz j2;have b2:Hid (nA Kq Kj l ⟨2,Kj.map a0,[],h,c⟩):=⟨⟨by rw[U.o];exact c8,Mg _⟩,.inl ⟨a6.o,⟨by rw[d4.o],a5.o.1,a5.o.2,.inr (.inl ⟨j1.o,l9.o,rfl,rfl⟩)⟩⟩⟩;obtain⟨E,H⟩:=aj (w6.setCell ⟨b,0,none⟩ (.a 2));have J:Hid (gZ v b E 2 (.slice i Kj.length Kj.length) h c):=by rw[H];exact t.o.set0 2
    clear j2 V;go_upto_region 14 with fail
    rw[<-H];clear H f0 f1 o0 Z t;have o0:=J.o.c0;have o1:=J.o.c1;have o2:=J.o.c2;have o3:=J.o.c3;have o4:=J.o.c4;obtain⟨W,X,Y,h8⟩:=HC.o E J.o.but;have⟨a2,I,b3⟩:=dF W X Y;have Z:=J.o.row.lt;clear W X Y;obtain⟨⟨⟨_,h9⟩,i0⟩,⟨⟨_,i1⟩,i2⟩,⟨⟨_,i3⟩,i4⟩,⟨⟨_,i5⟩,i6⟩,⟨_,i7⟩,i8⟩:=I.o.row.yH;have i9:=I.o.lt;have j0:¬b=w.heap.size:=E5;go_wp2
    have hX:=Mi E w.heap.size 0 [.a 2,.slice i Kj.length Kj.length,M0,.a h,.a c] (I.o.row.there (o:=0) (m:=5) (Me _));refine Zx [.a 2,.slice i Kj.length Kj.length,M0,.a h,.a c] _ results34 rfl hX underlying43 rfl Tryz.dN rfl ⟨_,i,none,Kj.length,0,b, ?_,b2.o, ?_, ?_,E5, ?_, ?_⟩
    .show Ending.returned _=Ending.returned _;rw[U.o];try rfl
    .exact (jL (vs:=[.a 2,.slice i Kj.length Kj.length,M0,.a h,.a c]) b3.o (.inl E5)).mono E5 (Me _)
    .exact .inl rfl
    .exact Mh (Nat.le_of_lt Z) (MI (size_setCells w.heap.size [.a 2,.slice i Kj.length Kj.length,M0,.a h,.a c] 0 E).symm)
    .exact bA (Me _) [.a 2,.slice i Kj.length Kj.length,M0,.a h,.a c] 0 a2.o
   have m0:=Kz j3;obtain⟨E,H⟩:=aj (w6.setCell ⟨b,0,none⟩ (.a 1));have J:Hid (gZ v b E 1 (.slice i Kj.length Kj.length) h c):=by rw[H];exact t.o.set0 1
   clear j3 V;go_upto_region 9 with fail
   rw[<-H];clear H f0 f1 o0 Z t;have a2:=Kz (HC.o E J.o.but).1;go_wp2_with fail
   refine (Fy (y.o.kept a2.o) b4.o b5 k4 c7).mono ?_;rintro e w8 ⟨mo,p5,g,ol,rfl,hO,hI,hM,j4⟩;have m1:Hid ((λj5 c2=>c2∈ol j5)=bI (Kk Kq) (Qq l)):=by
    show _=_
    funext j5 c2
    rw[hI.iff,<-M.o,CG b4.o (by rw[M.o];exact a6.o.asked)];simp
   have j6:Hid (∀s,ol s≠[]->s∈ts.map (·.r.name)):=λs hs=>by
    obtain⟨c2,hy⟩:=List.exists_mem_of_ne_nil _ hs;obtain⟨_,P,ht,N,_⟩:=(hI.iff s c2).1 hy;rw[<-N];exact MH.2 ⟨P,ht,rfl⟩
   have m2:Hid (∀s,ol s≠[]->s.size<=20):=λs hs=>by
    obtain⟨P,ht,rfl⟩:=MH.1 (j6.o s hs);obtain⟨p6,hA,_⟩:=(b4.o.good.good P.r (Nf (f:=λP:Zk=>P.r) ht)).act;exact (b5 _ _ hA).2.2.1
   have m3:Hid (xE w8 mo (λs=>ol s≠[]) ol):=by
    obtain⟨m4,m5,hN,m6,hf,R⟩:=hO.map;refine⟨⟨m4,m5,E5,m6,λs hs=>?_,R⟩,λs p=>p⟩;have m7:=hO.row s;obtain⟨m8,c9,m9,n0⟩:=bK m7;exact⟨m8,c9,by rw[hf s hs,m9],n0⟩
   have n1:Hid (∀s,(ol s).length<=1000000):=λs=>by have:=hI.len s;omega
   clear hO hI;go_wp2_with fail
   refine (Bf w8 mo _ ol (ts.map (·.r.name)) j6.o (by rw[Nn];exact c7) m2.o n1.o m3.o).mono ?_;rintro e w9 ⟨F,k,rfl,j7,n2,j8,k9⟩;have j9:Hid (yK (bI (Kk Kq) (Qq l)) k):=by rw[<-m1.o];exact j8
   have b2:Hid (nA Kq Kj l ⟨1,Kj.map a0,k,h,c⟩):=⟨⟨by rw[U.o];exact c8,n2⟩,.inl ⟨a6.o,⟨by rw[d4.o],a5.o.1,a5.o.2,.inr (.inr ⟨j1.o,m0.o,rfl,j9.o⟩)⟩⟩⟩;have S:=Kz (J.o.kept (j4.trans k9));have p7:=j4.size;have p8:=J.o.row.lt;have k3:=S.o.row.lt;obtain⟨⟨_,f0⟩,f1⟩:=S.o.row.row.at (i:=2) E5;obtain⟨z,K⟩:=aj (w9.setCell ⟨b,2,none⟩ (.slice F k.length k.length));have o0:z.cell? ⟨b,0,none⟩=some (.a 1):=by rw[K];exact miss S.o.c0 E8
   have o1:z.cell? ⟨b,1,none⟩=some (.slice i Kj.length Kj.length):=by rw[K];exact miss S.o.c1 E8
   have o2:z.cell? ⟨b,2,none⟩=some (.slice F k.length k.length):=by rw[K];exact aW S.o.row.row E5 _
   have o3:z.cell? ⟨b,3,none⟩=some (.a h):=by rw[K];exact miss S.o.c3 E8
   have o4:z.cell? ⟨b,4,none⟩=some (.a c):=by rw[K];exact miss S.o.c4 E8
   obtain⟨W,X,Y,h8⟩:=HC.o z (by rw[K];exact S.o.but.set rfl _);have⟨a2,I,b3⟩:=dF W X Y;have Z:b<z.heap.size:=by rw[K,size_setCell];exact k3
   have n3:Hid (bX z b z.heap.size F k):=by
    have p:bX z w8.heap.size w9.heap.size F k:=by rw[K];exact j7.same (Same.setCell _ (.inl (by show b<w8.heap.size;omega)) _)
    exact p.mono E5 (by rw[K,size_setCell];exact Me _)
   clear W X Y j7 j8 j9 S;go_upto_region 14 with fail
   rw[<-K];clear K f0 f1 k3;obtain⟨⟨⟨_,h9⟩,i0⟩,⟨⟨_,i1⟩,i2⟩,⟨⟨_,i3⟩,i4⟩,⟨⟨_,i5⟩,i6⟩,⟨_,i7⟩,i8⟩:=I.o.row.yH;have i9:=I.o.lt;have j0:¬b=w.heap.size:=E5;go_wp2
   have hX:=Mi z w.heap.size 0 [.a 1,.slice i Kj.length Kj.length,.slice F k.length k.length,.a h,.a c] (I.o.row.there (o:=0) (m:=5) (Me _));refine Zx [.a 1,.slice i Kj.length Kj.length,.slice F k.length k.length,.a h,.a c] _ results34 rfl hX underlying43 rfl Tryz.dN rfl ⟨_,i,F,Kj.length,k.length,b, ?_,b2.o, ?_, ?_,E5, ?_, ?_⟩
   .show Ending.returned _=Ending.returned _;rw[U.o];try rfl
   .exact (jL (vs:=[.a 1,.slice i Kj.length Kj.length,.slice F k.length k.length,.a h,.a c]) b3.o (.inl E5)).mono E5 (Me _)
   .exact (rO (vs:=[.a 1,.slice i Kj.length Kj.length,.slice F k.length k.length,.a h,.a c]) n3.o (.inl E5)).mono (Me _) (MI (size_setCells w.heap.size [.a 1,.slice i Kj.length Kj.length,.slice F k.length k.length,.a h,.a c] 0 z).symm)
   .exact Mh (Nat.le_of_lt Z) (MI (size_setCells w.heap.size [.a 1,.slice i Kj.length Kj.length,.slice F k.length k.length,.a h,.a c] 0 z).symm)
   .exact bA (Me _) [.a 1,.slice i Kj.length Kj.length,.slice F k.length k.length,.a h,.a c] 0 a2.o
end
theorem Ak(w:NI)(a:NH)(q:Nat)(c:List Qz)(x:NH)(y:Nat)(Kj:List NG)(z:NH)(C:Nat)(b:List Q_)(hl:c.length<=1048576)(hf:∀s∈c,s.Fits)(b2:Kj.length<=maxLen)(b3:Kj.length<=y)(b4:∀s∈Kj,s.size<=maxLen)(b5:b.length<=1048576)(b6:∀r∈b,r.texts.length<=1048576)(hS:bT w a c)(O:Strs w x Kj)(hG:cB w z b)(b7:gD w):
  Calls prog 10 #[.agg #[.slice a c.length q],.agg #[.slice x Kj.length y,.slice z b.length C]] w λe w'=>Er (nA c Kj b) w w' e:=by
 obtain⟨i,A⟩:=aj (((w.alloc (.cells #[.slice a c.length q] 25)).alloc (.cells #[.slice x Kj.length y,.slice z b.length C] 32)).alloc (.cells #[.a 0,M0,M0,.a 0,.a 0] 43));have j:K_ w i:=by rw[A];exact ((ah _ _).alloc _).alloc _
 have b8:i.heap.size=w.heap.size+3:=by rw[A];simp
 have b0:i.cell? ⟨w.heap.size,0,none⟩=some (.slice a c.length q):=by
  rw[A];exact (Ce (w:=w) (v:= .slice a c.length q) (t:=25) ((ah _ _).alloc _)).1
 have b9:i.cell? ⟨w.heap.size+1,0,none⟩=some (.slice x Kj.length y)/\i.cell? ⟨w.heap.size+1,1,none⟩=some (.slice z b.length C):=by
  have h:=Eh (w:=w.alloc (.cells #[.slice a c.length q] 25)) (v0:= .slice x Kj.length y) (v1:= .slice z b.length C) (t:=32) (w1:=i) (by rw[A];exact ah _ _);rw[MS] at h;exact h
 have c0:Hid (aD i (w.heap.size+1+1) 43 5):=by
  have h:=aD.made ((w.alloc (.cells #[.slice a c.length q] 25)).alloc (.cells #[.slice x Kj.length y,.slice z b.length C] 32)) #[.a 0,M0,M0,.a 0,.a 0] 43;rw[MS,MS] at h;rw[A];exact h
 obtain⟨s0,s1⟩:=b9;have z0:w.heap.size<i.heap.size:=E5;have z1:w.heap.size+1<i.heap.size:=E5;go_enter func10,ntmps10
 go_upto_region 1 with fail
 rw[<-A];clear A;go_wp2_with fail
 refine (vJ _ a q c x y Kj z C b hl hf b2 b3 b4 b5 b6 (hS.kept j) (O.kept j) (hG.kept j) (b7.kept j)).mono ?_;rintro e D ⟨B,c1⟩;have P:=j.trans B;have z3:w.heap.size+3<=D.heap.size:=by have:=B.size;omega
 have H:Hid (¬dU c Kj b->∀u,K_ i u->Er (nA c Kj b) w (u.setCells (w.heap.size+1+1) 0 [.a 9,M0,M0,.a 0,.a 0]) (.returned (.agg #[.a 9,M0,M0,.a 0,.a 0]))):=λhn u Q=>⟨EM,none,none,0,0,w.heap.size,rfl,⟨⟨Mg _,Mg _⟩,.inr ⟨hn,rfl⟩⟩,.inl rfl,.inl rfl,Me _,by rw[size_setCells];have:=Q.size;omega,bA (g:=w.heap.size+1+1) E5 _ 0 (j.trans Q)⟩
 have d:=c0.o.kept B;clear b0 s0 s1 z0 z1 b8;rcases c1 with⟨R,rfl⟩|⟨S,T,G,wz,bb,mb,mx,ts,d1,dc,f,ws,c2,rfl,kz,U,I,c3,J,V,W⟩
 .have K:Hid (¬dU c Kj b):=λh=>R ⟨h.1,h.2.1,h.good.asc⟩
  obtain⟨⟨⟨_,X⟩,Y⟩,⟨⟨_,Z⟩,a0⟩,⟨⟨_,a1⟩,a2⟩,⟨⟨_,a3⟩,a4⟩,⟨_,a5⟩,a6⟩:=d.row.yH;have a7:=d.lt;have⟨E,L⟩:=aH d B;clear R B j d;go_wp2_with fail
  have F:=Mi D (w.heap.size+1+1) 0 [.a 9,M0,M0,.a 0,.a 0] (E.o.row.there (o:=0) (m:=5) (Me _));exact Zx [.a 9,M0,M0,.a 0,.a 0] _ results10 rfl F underlying43 rfl Tryz.dN rfl (H.o K.o D L.o)
 have M:=Kz (J.trans (zf S T I V W));have⟨a8,HB,c4⟩:=dF J U I;clear T G kz J V W U I S;cases c2
 .have K:Hid (¬dU c Kj b):=λh=>(by have h2:=M.o.2 h;cases h2)
  obtain⟨⟨⟨_,X⟩,Y⟩,⟨⟨_,Z⟩,a0⟩,⟨⟨_,a1⟩,a2⟩,⟨⟨_,a3⟩,a4⟩,⟨_,a5⟩,a6⟩:=d.row.yH;have a7:=d.lt;have⟨E,L⟩:=aH d B;clear B j d;go_wp2_with fail
  have F:=Mi D (w.heap.size+1+1) 0 [.a 9,M0,M0,.a 0,.a 0] (E.o.row.there (o:=0) (m:=5) (Me _));exact Zx [.a 9,M0,M0,.a 0,.a 0] _ results10 rfl F underlying43 rfl Tryz.dN rfl (H.o K.o D L.o)
 have c5:Hid (Qj ts=b):=a8.o.1 rfl;have c6:Hid (dU c Kj b):=M.o.1 rfl;have E:=Kz d;clear a8 M H d;go_wp2_with fail
 refine (xY Kj b HB.o c4.o c3 c6.o c5.o (O.kept P)).mono ?_;rintro e N ⟨o,k,l,n,p,c7,rfl,G,a9,b1,m1,m2,k2⟩;have⟨HA,c8,c9⟩:=dF G a9 b1;have d:=E.o.kept k2;obtain⟨⟨⟨_,X⟩,Y⟩,⟨⟨_,Z⟩,a0⟩,⟨⟨_,a1⟩,a2⟩,⟨⟨_,a3⟩,a4⟩,⟨_,a5⟩,a6⟩:=d.row.yH;have a7:=d.lt;have d0:=Kz d;clear d G a9 b1;go_wp2_with fail
 have F:=Mi N (w.heap.size+1+1) 0 (o.cells k l n p) (d0.o.row.there (o:=0) (m:=5) (Me _));refine Zx (o.cells k l n p) _ results10 rfl F underlying43 rfl Tryz.dN rfl ⟨o,k,l,n,p,c7,rfl,HA.o, ?_, ?_,E5, ?_, ?_⟩
 .exact (jL (vs:=o.cells k l n p) c8.o (.inl E5)).mono E5 (Me _)
 .exact (rO (vs:=o.cells k l n p) c9.o (.inl E5)).mono (Me _) (MI (size_setCells (w.heap.size+1+1) (o.cells k l n p) 0 N).symm)
 .exact Mh m2 (MI (size_setCells (w.heap.size+1+1) (o.cells k l n p) 0 N).symm)
 .exact bA (g:=w.heap.size+1+1) E5 (o.cells k l n p) 0 (P.trans k2)
def BH(Kq:List Qz)(Kj:List NG)(w w':NI)(e:Ending):Prop:=
 ∃(o:uN) (a f:NH) (c e0:Nat),e= .returned (.agg #[.a o.code,.slice a o.res.length c,.slice f o.chain.length e0,.a o.eF,.a o.cost])/\oU Kq Kj o/\qK w' a o.res/\Strs w' f o.chain/\K_ w w'
def ry(l:List fC)(code:Int):Prop:=(code=0/\¬∃r∈l,r.over=false)\/(code=1/\∃r∈l,r.over=false)
theorem ry.yes{l:List fC}{e:Int}(h:ry l e)(r:fC)(f:r.over=true):ry (l++ [r]) e:=by
 rcases h with⟨a,b⟩|⟨a,x,c,b⟩
 .refine .inl ⟨a,λ⟨x,c,d⟩=>?_⟩;rcases Mo.1 c with h | h
  .exact b ⟨x,h,d⟩
  .rw[Mm] at h;rw[h,f] at d;cases d
 .exact .inr ⟨a,x,Mo.2 (.inl c),b⟩
theorem ry.no(l:List fC)(r:fC)(a:r.over=false):ry (l++ [r]) 1:= .inr ⟨rfl,r,Mo.2 (.inr (Mm.2 rfl)),a⟩
theorem Ir{a:List Qz}(d:bg (Kk a)){l:List Q_}(b:∀r∈l,r.Good a)(i:l.length<=60)(k:Nat):0<=dK (l.take k)/\dK (l.take k)<=1200/\0<=fO (Kk a) (l.take k)/\fO (Kk a) (l.take k)<=24000:=by
 have h:∀r∈l.take k,0<=r.Zq/\r.Zq<=20:=λr c=>⟨(b r (List.mem_of_mem_take c)).lo,(b r (List.mem_of_mem_take c)).hi⟩
 have e:=wN h;have f:=AB d h;have j:(l.take k).length<=60:=G9;exact⟨e.1,E5,f.1,E5⟩
theorem qi(w:NI)(a:NH)(G:Nat)(i:List Qz)(ra:NH)(rc:Nat)(Kj:List NG)(g3:i.length<=1048576)(l5:∀y∈i,y.Fits)(w4:Kj.length<=1048576)(p7:∀s∈Kj,s.size<=maxLen)
  (hN:bT w a i) (hR:Strs w ra Kj):
  Calls prog 11 #[.agg #[.slice a i.length G],.slice ra Kj.length rc] w λe w'=>BH i Kj w w' e:=by
 obtain⟨W,a5⟩:=aj ((w.alloc (.cells #[.slice a i.length G] 25)).alloc (.cells #[.a 0,M0,M0,.a 0,.a 0] 43));have kB:K_ w W:=by rw[a5];exact (ah _ _).alloc _
 have p8:W.heap.size=w.heap.size+2:=by rw[a5];simp
 have b0:W.cell? ⟨w.heap.size,0,none⟩=some (.slice a i.length G):=by
  rw[a5];exact (Ce (w:=w) (v:= .slice a i.length G) (t:=25) (ah _ _)).1
 have e6:Hid (aD W (w.heap.size+1) 43 5):=by
  have h:=aD.made (w.alloc (.cells #[.slice a i.length G] 25)) #[.a 0,M0,M0,.a 0,.a 0] 43;rw[MS] at h;rw[a5];exact h
 have l6:Hid (mI W (w.heap.size+1)):=by
  have h:=Gd (w:=w.alloc (.cells #[.slice a i.length G] 25)) (k:=0) (m:=0) (n:=0) (a:=none) (f:=none) (c:=0) (e0:=0) (rl:=0) (cl:=0) (t:=43);rw[MS] at h;rw[a5];exact h
 have z0:w.heap.size<W.heap.size:=E5;have z1:w.heap.size+1<W.heap.size:=E5;have c5:Hid (∀w',K_ W w'->w'.cell? ⟨w.heap.size,0,none⟩=some (.slice a i.length G)/\w.heap.size<w'.heap.size):=λw' K=>⟨(K.cell z0).trans b0,Mf z0 K.size⟩
 have g4:Hid (¬(bv i 0/\dR Kj)->∀u,K_ W u->BH i Kj w (u.setCells (w.heap.size+1) 0 [.a 9,M0,M0,.a 0,.a 0]) (.returned (.agg #[.a 9,M0,M0,.a 0,.a 0]))):=λhn u ku=>⟨EM,none,none,0,0,rfl,⟨⟨Mg _,Mg _⟩,.inr ⟨hn,rfl⟩⟩,(λA X=>by cases X),(λA X=>by cases X),bA (g:=w.heap.size+1) E5 _ 0 (kB.trans ku)⟩
 have c6:=Kz kB;clear kB p8 b0 z0;go_enter func11,ntmps11
 go_upto_region 1 with fail
 rw[<-a5];clear a5;obtain⟨b0,z0⟩:=c5.o _ (K_.refl _);go_wp2_with fail
 refine (gW _ a G i F5 l5 (hN.kept c6.o)).mono ?_;rintro e w1 ⟨⟨c,rfl,hc⟩,k1⟩;clear b0 z0;obtain⟨b0,z0⟩:=c5.o _ k1;by_cases b6:c=0;rotate_left
 .have w5:(c != 0)=true:=by simpa using b6
  have p9:Hid (¬bv i 0):=λh=>b6 (hc.unique h)
  have a6:=Kz (e6.o.kept k1);obtain⟨⟨⟨_,g5⟩,g7⟩,⟨⟨_,g8⟩,g9⟩,⟨⟨_,h0⟩,h4⟩,⟨⟨_,h6⟩,h7⟩,⟨_,i0⟩,i1⟩:=a6.o.row.yH;have i2:=a6.o.lt;clear b6 hc;go_wp2_with fail
  have hX:=Mi w1 (w.heap.size+1) 0 [.a 9,M0,M0,.a 0,.a 0] (a6.o.row.there (o:=0) (m:=5) (Me _));exact Zx [.a 9,M0,M0,.a 0,.a 0] _ results11 rfl hX underlying43 rfl Tryz.dN rfl (g4.o (λh=>p9.o h.1) w1 k1)
 subst b6;have c7:=Kz hc;clear hc;go_wp2_with fail
 refine (lU _ ra rc Kj F5 p7 (hR.kept (c6.o.trans k1))).mono ?_;rintro e w2 ⟨i3,k2⟩;have K2:=k1.trans k2;clear b0 z0;obtain⟨b0,z0⟩:=c5.o _ K2;rcases i3.cases with⟨rfl,c8⟩|⟨rfl,a3⟩;rotate_left
 .have q5:=Kz a3;have a6:=Kz (e6.o.kept K2);obtain⟨⟨⟨_,g5⟩,g7⟩,⟨⟨_,g8⟩,g9⟩,⟨⟨_,h0⟩,h4⟩,⟨⟨_,h6⟩,h7⟩,⟨_,i0⟩,i1⟩:=a6.o.row.yH;have i2:=a6.o.lt;clear a3 i3;go_wp2_with fail
  have hX:=Mi w2 (w.heap.size+1) 0 [.a 9,M0,M0,.a 0,.a 0] (a6.o.row.there (o:=0) (m:=5) (Me _));exact Zx [.a 9,M0,M0,.a 0,.a 0] _ results11 rfl hX underlying43 rfl Tryz.dN rfl (g4.o (λh=>q5.o h.2) w2 K2)
 have HY:=Kz c8;clear c8 i3 g4;obtain⟨rb,ro,rfl,w9,_⟩:=hR 0 (by have:=HY.o.1;omega);have i4:=lH c7.o;have l7:=HY.o.2.1;have e7:=cO c7.o;have i5:=c6.o.trans K2;have q6:Hid (∀l8∈Kj,l8.size<=20):=λl8 hn=>by
  obtain⟨A,X,rfl⟩:=Ms hn;have h:=(HY.o.2.2 A X).1.2.1;simpa[List.getD,X] using h
 go_wp2_with fail
 refine (GJ w2 a G i (some ⟨rb,ro,none⟩) rc Kj i4 l5 (pu c7.o) e7 l7 (hN.kept i5) (hR.kept i5)).mono ?_;rintro e w3 ⟨T,L,c9,dc,xs,rfl,x0,hO,hZ⟩;have d0:=Kz hO;have q7:=Mh hO.len i4;have K3:=K2.trans hZ.kw;obtain⟨d,a7⟩:=aj w3.heap.size;obtain⟨q,b7⟩:=aj (w3.alloc (.cells #[.a 0,M0,M0,.a 0,.a 0] 43));have kO:K_ w3 q:=by rw[b7];exact ah _ _
 have q8:d<q.heap.size:=by rw[b7,a7];simp
 have i6:Hid (gZ q d q 0 M0 0 0):=by
  obtain⟨q0,q1,q2,q3,q4⟩:=yP (w:=w3) (w1:=q) (v0:= .a 0) (v1:= M0) (v2:= M0) (v3:= .a 0) (v4:= .a 0) (t:=43) (by rw[b7];exact K_.refl _);rw[<-a7] at q0 q1 q2 q3 q4;exact⟨But.ax (K_.refl _),by rw[b7,a7];exact aD.made w3 _ _,q0,q1,q2,q3,q4⟩
 have l9:=Kz (hZ.kept kO).again;have d1:K_ W q:=K3.trans kO;have q9:w.heap.size+1<w3.heap.size:=Mf z1 K3.size;have m0:¬T=d:=by have:=hZ.known.row.lt;omega
 have r0:w2.heap.size<=d:=by rw[a7];exact hZ.kw.size
 have x1:w.heap.size+1<d:=by rw[a7];exact q9
 have HC:Hid (∀u,But (λb=>b=d) q u->u.cell? ⟨w.heap.size,0,none⟩=some (.slice a i.length G)/\KnZ w2 u u T (.slice c9 L.length dc) a i.length G L c9 dc xs/\K_ w u/\aD u (w.heap.size+1) 43 5/\mI u (w.heap.size+1)/\q.heap.size<=u.heap.size):=λu h=>by
  have x2:=kO.size;refine⟨(h.cell E5 (λ(e:w.heap.size=d)=>E5)).trans (c5.o _ d1).1, ?_,h.kept (c6.o.trans d1) (λb e=>by rw[e];omega),h.row (e6.o.kept d1) (λ(e:w.heap.size+1=d)=>E5),λo s e=>(l6.o.kept z1 d1) o s ((h.cell E5 (λ(e:w.heap.size+1=d)=>E5)).symm.trans e),h.size⟩;refine l9.o.but h (λb e=>by rw[e];exact r0) m0 (λb e (e2:b=d)=>?_) (λb (e:b=d) ht=>aS i6.o.row.type (by rw[e] at ht;exact ht) E8 rfl);have:=(hZ.own.lt b e).2;omega
 obtain⟨R,m2⟩:=aj (sV (Kk i) (Qq L));have i7:=Kz m2;go_upto_region 5 with fail
 rw[<-b7,<-a7];clear m2 a7 b7 b0 z0 kO d1 l9 c5 hZ hO e6 l6 c6 i5 K2 K3 k1 k2;go_wp2
 go_loopw [7] (λx7 wr=>∃(k:Nat) (l:NH) (n:Nat) (Y:Int),k<=Kj.length/\x7= .a (k:Int)/\Hid (ry ((Kj.take k).map R) Y)/\Hid (gZ q d wr Y (.slice l k n) 0 0)/\Hid (wr.ownsRow q.heap.size 84 4 (.slice l k n) k (bR ((Kj.take k).map R)))) (λx7 _=>Kj.length-(intOf x7).toNat)
 case atStart=>exact⟨0,none,0,0,Mg _,rfl,Kz (.inl ⟨rfl,λ⟨_,h,_⟩=>by cases h⟩),i6,Kz (Nc _ _ _ _)⟩
 case round=>
  clear i6;obtain⟨k,l,n,Y,hk,rfl,i8,B,U⟩:=hrel;obtain⟨c0,b1,Kr,e8,f0,i9⟩:=HC.o wr B.o.but;have⟨Z,a0⟩:=aH b1 Kr;clear b1 e8 f0;by_cases d2:k<Kj.length
  .have x3:(k:Int)<(Kj.length:Int):=E5;obtain⟨sb,so,e1,m3,j0⟩:=hR k d2;simp only[MV,ND,and_true] at e1;obtain⟨rfl,rfl⟩:=e1;obtain⟨O,j1⟩:=aj (Kj.getD k ByteArray.empty);rw[<-j1] at j0;have m4:=(a0.o.cell m3).trans j0;have m5:rb<wr.heap.size:=Mf m3 a0.o.size;clear j0;have j2:Kj[k]=O:=by rw[j1];simp[List.getD,d2]
   have m6:O∈Kj:=by rw[<-j2];exact Mq d2
   have m7:=Kz j2;have x4:=q6.o O m6;clear j1 j2 m6;go_wp2_with fail
   refine (uF wr T a G i c9 dc L O g3 E5 E5 Z.o.known (hN.kept a0.o) Z.o.runs).mono ?_;rintro e f1 ⟨⟨fl,tx,ok,rfl,m8,a3⟩,j3⟩;have d3:Hid (R O= ⟨O,ok,fl,tx⟩):=by
    show R O=_;rw[i7.o];unfold sV;rw[m8];cases ok
    .obtain⟨h1,h2⟩:=a3 rfl;rw[h1,h2]
     rfl
    .rfl
   have j4:Hid ((Kj.take (k+1)).map R= (Kj.take k).map R++ [⟨O,ok,fl,tx⟩]):=by
    show _=_;rw[Ml d2,Ny,m7.o,<-d3.o]
    rfl
   obtain⟨I,d4⟩:=aj (f1.alloc (.cells #[.bool fl,.string tx] 80));have k4:K_ f1 I:=by rw[d4];exact ah _ _
   obtain⟨pb,f2⟩:=aj (f1.heap.size);have f3:=Eh (w:=f1) (v0:= .bool fl) (v1:= .string tx) (t:=80) (w1:=I) (by rw[d4];exact K_.refl _);rw[<-f2] at f3;have K4:=j3.trans k4;have m9:∀b,(Value.slice l k n).ownBlock=some b->b≠pb:=λb e=>by have h1:=(U.o.lt b e).2;have h2:=j3.size;omega
   have n0:pb<I.heap.size:=by rw[d4,f2];simp
   have j5:=Kz (B.o.kept K4);have n1:=Kz (ak U.o K4);have r1:rb<I.heap.size:=Mf m5 K4.size;have x5:q.heap.size<=I.heap.size:=Mh i9 K4.size;have r2:d<I.heap.size:=E5;have P:Hid (∀u:NI,(∀b,b<I.heap.size->¬q.heap.size<=b\/b=pb->u.heap[b]? =I.heap[b]?)->u.cell? ⟨d,1,none⟩=some (.slice l k n)/\u.cell? ⟨rb,ro+k,none⟩=some (.string O)/\u.cell? ⟨pb,0,none⟩=some (.bool fl)/\u.cell? ⟨pb,1,none⟩=some (.string tx)):=λu M=>by
    exact⟨(Mt (w:=I) (M d r2 (.inl E5))).trans j5.o.c1,(Mt (w:=I) (M rb r1 (.inl E5))).trans ((K4.cell m5).trans m4),(Mt (w:=I) (M pb n0 (.inr rfl))).trans f3.1,(Mt (w:=I) (M pb n0 (.inr rfl))).trans f3.2⟩
   obtain⟨ic,b6,r3,r4,r5⟩:=aU Tryz.qO;go_upto_region 9 with fail
   rw[<-d4,<-f2];clear d4 f2 f3 k4 j3 m8 a3 c0 m4 d3 m7;refine rY 15 P.o (λ_ _ _=>rfl) λN H j=>?_
   refine au 0 j ?_;refine au 4 j ?_;refine au 8 j ?_;refine ai 12 (λK r=>?_);go_simp
   have K5:K_ N (N.alloc (.cells #[.string O,.bool ok,.bool fl,.string tx] 84)):=ah _ _;have f4:=X_ N #[.string O,.bool ok,.bool fl,.string tx] 84;have J:=H.trans K5;have b2:∀b,b<I.heap.size->¬q.heap.size<=b\/b=pb->(N.alloc (.cells #[.string O,.bool ok,.bool fl,.string tx] 84)).heap[b]? =I.heap[b]? :=λb hb _=>J.block b hb
   refine r.out _ _ (λ_=>P.o _ b2) ?_;clear r K j;obtain⟨eb,n2⟩:=aj N.heap.size;rw[<-n2] at f4⊢;generalize r6:N.alloc (.cells #[.string O,.bool ok,.bool fl,.string tx] 84)=w6 at f4 J b2⊢;clear r6 K5 n2;have j6:=Kz (ak n1.o J);have x6:=J.size;try simp only[upP]
   refine ai 13 (λK r=>?_);refine step_append_lies _ rfl (.tmp 40) (.tmp 51) 41 rfl q.heap.size 84 ic _ 4 40 underlying41 b6 r3 r4 r5 rfl E8 (.slice l k n) k (bR ((Kj.take k).map R)) F8 j6.o ⟨eb,0,none⟩ 1 1 [.string O,.bool ok,.bool fl,.string tx] F8 rfl (λr7 u hu=>by rw[MZ];exact f4 r7 u hu) (λu hu=>by simp only[Na,Nb,or_false] at hu;rcases hu with rfl | rfl | rfl | rfl <;> rfl) E5 F5 E5 E5 _ rfl ?_;intro g6 b8 w8 j7 n3 r8 x8;have j8:∀b,(Value.slice l k n).ownBlock=some b->q.heap.size<=b:=λb e=>(j6.o.lt b e).1
   have f5:But (λb=>(Value.slice l k n).ownBlock=some b) w6 w8:=But.aI n3 (λb e=>e);have j9:∀b,b<I.heap.size->¬q.heap.size<=b\/b=pb->w8.heap[b]? =I.heap[b]? :=λb hb hn=>(f5.block b E5 (λe=>by rcases hn with h | h;exact h (j8 b e);exact m9 b e h)).trans (b2 b hb hn)
   have f6:gZ q d w8 Y (.slice l k n) 0 0:=(j5.o.kept J).alike f5 j8 q8;have x9:=f5.size;obtain⟨⟨_,b3⟩,b4⟩:=f6.row.row.at (i:=1) E5;have r9:=f6.row.lt;obtain⟨W8,b5⟩:=aj (w8.setCell ⟨d,1,none⟩ (.b g6 (k+1) b8));have d5:Hid (gZ q d W8 Y (.b g6 (k+1) b8) 0 0):=by rw[b5];exact f6.set1 _
   have f7:Hid (W8.ownsRow q.heap.size 84 4 (.b g6 (k+1) b8) (k+1) (bR ((Kj.take (k+1)).map R))):=by
    rw[b5,j4.o,oW];exact (But.set (S:=λb=>b=d) (But.ax (K_.refl w8)) (p:=⟨d,1,none⟩) rfl _).owns j7 (λb e e2=>by have:=(j7.lt b e).1;omega)
   refine af r (λ_=>P.o _ j9) ?_;clear r K j7 n3 r8 f6;have j:=P.o _ j9;refine ae 14 j ?_;refine ai 15 (λK r=>?_);go_simp
   rw[<-b5];refine af r (λh=>Nv rfl h) ?_;clear r K j;refine aF ?_;clear b5 b4 b3 j9 m9 j8 f5 f4 b2 j6 j5 n1 P B U H J r9;cases ok
   .have k0:Hid (ry ((Kj.take (k+1)).map R) 1):=by rw[j4.o];exact ry.no _ _ rfl
    have n4:=d5.o.c0;obtain⟨⟨_,y0⟩,y1⟩:=d5.o.row.row.at (i:=0) E5;have HF:=Kz (d5.o.set0 1);have HG:Hid ((W8.setCell ⟨d,0,none⟩ (.a 1)).ownsRow q.heap.size 84 4 (.b g6 (k+1) b8) (k+1) (bR ((Kj.take (k+1)).map R))):=(But.set (S:=λb=>b=d) (But.ax (K_.refl W8)) (p:=⟨d,0,none⟩) rfl _).owns f7.o (λb e e2=>by have:=(f7.o.lt b e).1;omega);clear d5 f7;go_wp2
    go_roundw
    case rel=>exact⟨k+1,some ⟨g6,0,none⟩,b8,1,E5,F3,k0,HF,HG⟩
    case measure=>simp[intOf];omega
   .have k0:Hid (ry ((Kj.take (k+1)).map R) Y):=by rw[j4.o];exact i8.o.yes _ rfl
    go_wp2
    go_roundw
    case rel=>exact⟨k+1,some ⟨g6,0,none⟩,b8,Y,E5,F3,k0,d5,f7⟩
    case measure=>simp[intOf];omega
  .have n5:¬((k:Int)<(Kj.length:Int)):=E5;have k3:k=Kj.length:=E5;have n6:Kj.take k=Kj:=by rw[k3];exact MN
   rw[n6] at i8 U;have k5:=Kz k3;clear d2 k3 n6 hk;have n7:Hid (0=dK (L.take 0)/\0=fO (Kk i) (L.take 0)):=⟨rfl,rfl⟩;go_wp2
   go_loopw [10] (λk6 wr=>∃(A:Nat) (C z:Int),A<=L.length/\k6= .a (A:Int)/\Hid (C=dK (L.take A)/\z=fO (Kk i) (L.take A))/\Hid (gZ q d wr Y (.slice l k n) C z)/\Hid (wr.ownsRow q.heap.size 84 4 (.slice l k n) k (bR (Kj.map R)))) (λk6 _=>L.length-(intOf k6).toNat)
   case atStart=>exact⟨0,0,0,Mg _,rfl,n7,B,U⟩
   case round=>
    clear n7 B U c0 Z a0 Kr i9;obtain⟨A,C,z,X,rfl,HU,B,U⟩:=hrel;obtain⟨c0,b1,Kr,e8,f0,i9⟩:=HC.o wr B.o.but;have⟨Z,d6,n8,a0⟩:=mM b1 e8 f0 Kr;have m1:=b1.known.runs;have zk:=b1.known.row.lt;clear b1 e8 f0 Kr;have s0:=Ir e7 d0.o.all q7 A;rw[<-HU.o.1,<-HU.o.2] at s0;by_cases d7:A<L.length
    .have y2:(A:Int)<(L.length:Int):=E5;obtain⟨g,rfl⟩:=tL Z.o.own E5;obtain⟨ya,yc,f8,_,_,_⟩:=Z.o.pack.at Z.o.own d7;have s1:=(Z.o.own.lt g rfl).2;have s2:¬g=d:=λe=>by
      have h1:=Y_ Z.o.own (b:=g) rfl;exact aS h1 B.o.row.type E8 e
     obtain⟨x,hx⟩:=aj (L.getD A Q_.zero);rw[<-hx] at f8;have k7:L[A]=x:=by rw[hx];simp[List.getD,d7]
     have n9:x∈L:=by rw[<-k7];exact Mq d7
     have t0:=f8 0 _ rfl;have t5:=f8 5 _ rfl;rw[M_] at t0;have f9:=d0.o.all x n9;obtain⟨y3,hA,_⟩:=f9.act;have o0:=tN e7 x.name;have s3:0<=x.Zq/\x.Zq<=20:=⟨f9.lo,f9.hi⟩;have s4:=Ig s3 o0;obtain⟨nk,n5,o1,o2,o4⟩:=gp hA;obtain⟨Q,no,cs,s5,s6,o5,na,y4,e4,_⟩:=hN nk n5;subst s5;have o6:jw (Kk i) x.name= (i.getD nk Qz.zero).cost:=by rw[uu hA,o4]
     have d8:wr.cell? ⟨Q,no+nk*3+1,none⟩=some (.a (jw (Kk i) x.name)):=by rw[o6];exact (a0.o.cell s6).trans (o5 1 _ (by rw[e4];rfl))
     obtain⟨V,k8⟩:=aj (jw (Kk i) x.name);rw[<-k8] at o0 s4 d8;have s7:Hid (∀a4:Int,Ia i x.name a4->a4= (nk:Int)):=λa4 hr=>by
      rcases hr with⟨k2,h1,rfl,h3,s8,h5⟩|⟨_,h2⟩
      .rcases Ns k2 nk with h|h|h
       .exact Nv s8 (o2 _ h)
       .rw[h]
       .exact Nv o1 (h5 _ h)
      .rw[hA] at h2;cases h2
     have y5:IntKind.i64.wrap (C+x.Zq)=C+x.Zq:=fV E5 E5;have y6:IntKind.i64.wrap (x.Zq*V)=x.Zq*V:=fV E5 E5;have y7:IntKind.i64.wrap (z+x.Zq*V)=z+x.Zq*V:=fV E5 E5;have s9:Hid (C+x.Zq=dK (L.take (A+1))/\z+x.Zq*V=fO (Kk i) (L.take (A+1))):=by
      rw[Ml d7,uj,vR,k7,<-HU.o.1,<-HU.o.2,<-k8];exact⟨rfl,rfl⟩
     have o7:=B.o.row.lt;have y8:Q<w3.heap.size:=E5;have P:Hid (∀u:NI,(∀b,b=w.heap.size\/b=Q\/b=T\/b=g\/b=d->u.heap[b]? =wr.heap[b]?)->u.cell? ⟨d,3,none⟩=some (.a C)/\u.cell? ⟨d,4,none⟩=some (.a z)/\u.cell? ⟨T,1,none⟩=some (.b g L.length dc)/\u.cell? ⟨g,A*7,none⟩=some (.string x.name)/\u.cell? ⟨g,A*7+5,none⟩=some (.a x.Zq)/\u.cell? ⟨w.heap.size,0,none⟩=some (.slice (some ⟨Q,no,none⟩) i.length G)/\u.cell? ⟨Q,no+nk*3+1,none⟩=some (.a V)):=λu M=>⟨(Mt (w:=wr) (M d (.inr (.inr (.inr (.inr rfl)))))).trans B.o.c3,(Mt (w:=wr) (M d (.inr (.inr (.inr (.inr rfl)))))).trans B.o.c4,(Mt (w:=wr) (M T (.inr (.inr (.inl rfl))))).trans m1,(Mt (w:=wr) (M g (.inr (.inr (.inr (.inl rfl)))))).trans t0,(Mt (w:=wr) (M g (.inr (.inr (.inr (.inl rfl)))))).trans t5,(Mt (w:=wr) (M w.heap.size (.inl rfl))).trans c0,(Mt (w:=wr) (M Q (.inr (.inl rfl)))).trans d8⟩
     clear c0 t0 t5 d8 f8 o5 o6 k8 hx k7 n9 f9 hA o4 o1 o2 e4 HU;have o8:w.heap.size<wr.heap.size:=E5;have t1:Q<wr.heap.size:=E5;have y9:d<wr.heap.size:=o7;have t2:Q≠d:=E5;have t3:w.heap.size≠d:=E5;go_upto_region 15 with fail
     clear m1;refine rY 12 P.o (λ_ _=>rfl) λN H j=>?_
     obtain⟨⟨_,b3⟩,b4⟩:=(B.o.kept H).row.row.at (i:=3) E5;have d9:=(B.o.kept H).row.lt;refine au 0 j ?_;refine au 4 j ?_;refine au 8 j ?_;refine ai 12 (λK r=>?_);go_simp
     refine af r (λh=>Nv rfl h) ?_;clear r K;refine aF ?_;clear b4 b3 d9;obtain⟨W5,b9⟩:=aj (N.setCell ⟨d,3,none⟩ (.a (C+x.Zq)));rw[<-b9];have e3:Hid (gZ q d W5 Y (.slice l k n) (C+x.Zq) z):=by rw[b9];exact (B.o.kept H).Ma _
     have t4:Hid (W5.ownsRow q.heap.size 84 4 (.slice l k n) k (bR (Kj.map R))):=by
      rw[b9];have h:=ak U.o H;exact (But.set (S:=λb=>b=d) (But.ax (K_.refl N)) (p:=⟨d,3,none⟩) rfl _).owns h (λb e e2=>by have:=(h.lt b e).1;omega)
     have t6:Hid (∀b,b≠d->b<wr.heap.size->W5.heap[b]? =wr.heap[b]?):=λb hb hz=>by rw[b9,Below.heap_setCell _ _ _ _ hb];exact H.block b hz
     have k9:Hid (∀u:NI,(∀b,b=w.heap.size\/b=Q\/b=T\/b=g\/b=d->u.heap[b]? =W5.heap[b]?)->u.cell? ⟨d,4,none⟩=some (.a z)/\u.cell? ⟨T,1,none⟩=some (.b g L.length dc)/\u.cell? ⟨g,A*7,none⟩=some (.string x.name)/\u.cell? ⟨g,A*7+5,none⟩=some (.a x.Zq)/\u.cell? ⟨w.heap.size,0,none⟩=some (.slice (some ⟨Q,no,none⟩) i.length G)/\u.cell? ⟨Q,no+nk*3+1,none⟩=some (.a V)):=λu M=>by
      have ho:=P.o wr (λ_ _=>rfl);have e5:∀b o,(b=w.heap.size\/b=Q\/b=T\/b=g)->u.cell? ⟨b,o,none⟩=wr.cell? ⟨b,o,none⟩:=λb o hb=>(Mt (w:=W5) (M b (by rcases hb with h | h | h | h;exact .inl h;exact .inr (.inl h);exact .inr (.inr (.inl h));exact .inr (.inr (.inr (.inl h)))))).trans (Mt (w:=wr) (t6.o b (by rcases hb with h | h | h | h;(rw[h];exact t3);(rw[h];exact t2);(rw[h];exact m0);(rw[h];exact s2)) (by rcases hb with h | h | h | h;(rw[h];exact o8);(rw[h];exact t1);(rw[h];exact zk);(rw[h];exact s1))))
      exact⟨(Mt (w:=W5) (M d (.inr (.inr (.inr (.inr rfl)))))).trans e3.o.c4,(e5 _ _ (.inr (.inr (.inl rfl)))).trans ho.2.2.1,(e5 _ _ (.inr (.inr (.inr rfl)))).trans ho.2.2.2.1,(e5 _ _ (.inr (.inr (.inr rfl)))).trans ho.2.2.2.2.1,(e5 _ _ (.inl rfl)).trans ho.2.2.2.2.2.1,(e5 _ _ (.inr (.inl rfl))).trans ho.2.2.2.2.2.2⟩
     have z2:wr.heap.size<=W5.heap.size:=by rw[b9,size_setCell];exact H.size
     clear b9 H B U P j;clear N;go_upto_region 16 with fail
     refine rY 29 k9.o (λ_ _=>rfl) λN H j=>?_
     refine au 0 j ?_;refine au 4 j ?_;refine au 8 j ?_;refine au 12 j ?_;refine au 16 j ?_;refine ae 20 j ?_;refine aG 21 (λK r=>?_);go_simp
     go_at_call 37
     have t7:K_ w N:=(HC.o W5 e3.o.but).2.2.1.trans H;refine (fF N (some ⟨Q,no,none⟩) G i x.name g3 (hN.kept t7)).mono ?_;rintro e w6 ⟨⟨a4,rfl,hr⟩,l0⟩;rw[s7.o a4 hr];have J:=H.trans l0;have b2:∀b,b=w.heap.size\/b=Q\/b=T\/b=g\/b=d->w6.heap[b]? =W5.heap[b]? :=λb hb=>J.block b E5
     have z3:(nk:Int)<(i.length:Int):=E5;clear hr;dsimp only;refine af r (λ_=>k9.o _ b2) ?_;clear r K j;have j:=k9.o _ b2;refine au 22 j ?_;refine ae 26 j ?_;refine ae 27 j ?_;refine ae 28 j ?_;obtain⟨⟨_,b3⟩,b4⟩:=(e3.o.kept J).row.row.at (i:=4) E5;have d9:=(e3.o.kept J).row.lt;refine ai 29 (λK r=>?_);go_simp
     refine af r (λh=>Nv rfl h) ?_;clear r K;refine aF ?_;have t8:Hid (gZ q d (w6.setCell ⟨d,4,none⟩ (.a (z+x.Zq*V))) Y (.slice l k n) (C+x.Zq) (z+x.Zq*V)):=(e3.o.kept J).Md _;have t9:Hid ((w6.setCell ⟨d,4,none⟩ (.a (z+x.Zq*V))).ownsRow q.heap.size 84 4 (.slice l k n) k (bR (Kj.map R))):=by
      have h:=ak t4.o J;exact (But.set (S:=λb=>b=d) (But.ax (K_.refl w6)) (p:=⟨d,4,none⟩) rfl _).owns h (λb e e2=>by have:=(h.lt b e).1;omega)
     clear b4 b3 d9 j;go_wp2
     go_roundw
     case rel=>exact⟨A+1,C+x.Zq,z+x.Zq*V,E5,F3,s9,t8,t9⟩
     case measure=>simp[intOf];omega
    .have z4:¬((A:Int)<(L.length:Int)):=E5;have o9:A=L.length:=E5;have g0:Hid (C=dK L/\z=fO (Kk i) L):=by have h:=HU.o;rw[o9,MN] at h;exact h
     have d3:Hid (qK wr l (Kj.map R)):=by
      obtain⟨a9,z5,e9,h9⟩:=wY U.o;simp only[MW] at e9;rw[e9.1];exact h9
     have g1:Hid ((Kj.map R).length=k):=by show _=_;rw[Nn];exact k5.o.symm
     have n4:=B.o.c0;have o7:=B.o.row.lt;have a1:=Kz d0.o.sorted;clear d7 o9 HU U X;rcases i8.o with⟨l1,a3⟩|⟨l1,c8⟩
     .subst l1;have v5:=Kz a3;have z6:=B.o.c1;have z7:=B.o.c2;have o3:=B.o.c3;have z8:=B.o.c4;have l2:Hid (oU i Kj ⟨0,Kj.map R,[],C,z⟩):=⟨⟨by rw[g1.o];have:=k5.o;omega,Mg _⟩,.inl ⟨c7.o,HY.o,_,a1.o.1,by rw[a1.o.2.1,i7.o],by rw[a1.o.2.2.1];exact g0.o.1,by rw[a1.o.2.2.2];exact g0.o.2,.inl ⟨v5.o,rfl,rfl⟩⟩⟩;clear a3;obtain⟨⟨⟨_,g5⟩,g7⟩,⟨⟨_,g8⟩,g9⟩,⟨⟨_,h0⟩,h4⟩,⟨⟨_,h6⟩,h7⟩,⟨_,i0⟩,i1⟩:=d6.o.row.yH;have i2:=d6.o.lt;go_wp2
      have hX:=Mi wr (w.heap.size+1) 0 [.a 0,.slice l k n,M0,.a C,.a z] (d6.o.row.there (o:=0) (m:=5) (Me _));refine Zx [.a 0,.slice l k n,M0,.a C,.a z] _ results11 rfl hX underlying43 rfl Tryz.dN rfl ⟨_,l,none,n,0, ?_,l2.o, ?_, ?_, ?_⟩
      .show Ending.returned _=Ending.returned _;rw[g1.o];try rfl
      .exact rE (vs:=[.a 0,.slice l k n,M0,.a C,.a z]) d3.o n8.o
      .exact (λA X=>by cases X)
      .exact bA (g:=w.heap.size+1) E5 [.a 0,.slice l k n,M0,.a C,.a z] 0 a0.o
     .subst l1;have v6:=Kz c8;clear c8;have P:Hid (∀u,K_ wr u->u.cell? ⟨w.heap.size,0,none⟩=some (.slice a i.length G)/\u.cell? ⟨T,1,none⟩=some (.slice c9 L.length dc)):=λu K=>⟨(K.cell E5).trans c0,(K.cell zk).trans m1⟩
      have z9:(L.foldl cZ []).length<=60:=Mh a1.o.1.1.len i4;have o8:w.heap.size<wr.heap.size:=E5;go_upto_region 18 with fail
      clear c0 m1 n4;refine bC 9 P.o λN H j=>?_
      refine au 0 j ?_;refine ae 4 j ?_;refine ae 5 j ?_;refine aG 6 (λK r=>?_);go_simp
      go_at_call 39
      refine (qD N rb ro rc Kj c9 dc L l7 E5 (λa4 hr=>by have h1:=(d0.o.all a4 hr).tl;have h2:=(d0.o.all a4 hr).hi;omega) (λk=>by have:=kL L k;omega) (hR.kept (a0.o.trans H)) (Z.o.runs.kept H)).mono ?_;rintro e w6 ⟨sa,sc,td,tc,zs,rfl,v7,p0,p1,l0⟩;have J:=H.trans l0;have v8:Hid (cB w6 td (L.foldl cZ [])):=by
       obtain⟨_,a8,A0,p2,h8⟩:=bD.runs p0 p1 (K_.refl _);simp only[MW,true_and] at p2;rw[<-p2.1] at h8;exact h8.runs
      clear v7 p0 p1;dsimp only;refine af r (λ_=>P.o _ J) ?_;clear r K j;refine aG 7 (λK r=>?_);go_simp
      go_at_call 38
      refine (Au w6 a G i sa Kj.length sc td tc (L.foldl cZ []) g3 E5 e7 a1.o.1.1 (hN.kept (a0.o.trans J)) v8.o).mono ?_;rintro e w7 ⟨E,F,D,rfl,d8,p3,l3,v9⟩;have K7:=J.trans v9;dsimp only;refine af r (λ_=>P.o _ K7) ?_;clear r K;have j:=P.o _ K7;refine ae 8 j ?_;obtain⟨⟨_,b3⟩,b4⟩:=(B.o.kept K7).row.row.at (i:=2) E5;have d9:=(B.o.kept K7).row.lt;refine ai 9 (λK r=>?_);go_simp
      refine af r (λh=>Nv rfl h) ?_;clear r K;refine aF ?_;clear j;have a2:=Kz (B.o.kept K7);have l2:Hid (oU i Kj ⟨1,Kj.map R,D,C,z⟩):=⟨⟨by rw[g1.o];have:=k5.o;omega,by
       have h1:=l3.len kM;rw[Nn] at h1;show D.length<=60;omega⟩,.inl ⟨c7.o,HY.o,_,a1.o.1,by rw[a1.o.2.1,i7.o],by rw[a1.o.2.2.1];exact g0.o.1,by rw[a1.o.2.2.2];exact g0.o.2,.inr ⟨v6.o,rfl,l3.Lm kM⟩⟩⟩
      have p4:=Kz (Cs (g:=d) (o:=2) (v:= .slice E D.length F) p3 a2.o.no);have p5:=Kz (Ch (g:=d) (o:=2) (v:= .slice E D.length F) (d3.o.kept K7) a2.o.no);have g2:Hid (aD (w7.setCell ⟨d,2,none⟩ (.slice E D.length F)) (w.heap.size+1) 43 5):=(d6.o.kept K7).block (Below.heap_setCell _ _ _ _ (by show w.heap.size+1≠d;omega));have l4:Hid (mI (w7.setCell ⟨d,2,none⟩ (.slice E D.length F)) (w.heap.size+1)):=λo s e=>n8.o.kept d6.o.lt K7 o s ((Zj E5).symm.trans e)
      have p6:Hid (K_ w (w7.setCell ⟨d,2,none⟩ (.slice E D.length F))):=(a0.o.trans K7).setCell (by show w.heap.size<=d;omega) _;have⟨q0,q1,q3,q4⟩:(w7.setCell ⟨d,2,none⟩ (.slice E D.length F)).cell? ⟨d,0,none⟩=some (.a 1)/\(w7.setCell ⟨d,2,none⟩ (.slice E D.length F)).cell? ⟨d,1,none⟩=some (.slice l k n)/\(w7.setCell ⟨d,2,none⟩ (.slice E D.length F)).cell? ⟨d,3,none⟩=some (.a C)/\(w7.setCell ⟨d,2,none⟩ (.slice E D.length F)).cell? ⟨d,4,none⟩=some (.a z):=⟨miss a2.o.c0 E8,miss a2.o.c1 E8,miss a2.o.c3 E8,miss a2.o.c4 E8⟩;have q2:(w7.setCell ⟨d,2,none⟩ (.slice E D.length F)).cell? ⟨d,2,none⟩=some (.slice E D.length F):=aW a2.o.row.row E5 _;have w0:d<(w7.setCell ⟨d,2,none⟩ (.slice E D.length F)).heap.size:=by rw[size_setCell];exact a2.o.row.lt
      obtain⟨W8,b5⟩:=aj (w7.setCell ⟨d,2,none⟩ (.slice E D.length F));rw[<-b5] at p4 p5 g2 l4 p6 q0 q1 q2 q3 q4 w0⊢;clear d8 p3 l3 a2 b5 b4 b3 d9;obtain⟨⟨⟨_,g5⟩,g7⟩,⟨⟨_,g8⟩,g9⟩,⟨⟨_,h0⟩,h4⟩,⟨⟨_,h6⟩,h7⟩,⟨_,i0⟩,i1⟩:=g2.o.row.yH;have i2:=g2.o.lt;go_wp2
      have hX:=Mi W8 (w.heap.size+1) 0 [.a 1,.slice l k n,.slice E D.length F,.a C,.a z] (g2.o.row.there (o:=0) (m:=5) (Me _));refine Zx [.a 1,.slice l k n,.slice E D.length F,.a C,.a z] _ results11 rfl hX underlying43 rfl Tryz.dN rfl ⟨_,l,E,n,F, ?_,l2.o, ?_, ?_, ?_⟩
      .show Ending.returned _=Ending.returned _;rw[g1.o];try rfl
      .exact rE (vs:=[.a 1,.slice l k n,.slice E D.length F,.a C,.a z]) p5.o l4.o
      .exact Az (vs:=[.a 1,.slice l k n,.slice E D.length F,.a C,.a z]) p4.o l4.o
      .exact bA (g:=w.heap.size+1) E5 [.a 1,.slice l k n,.slice E D.length F,.a C,.a z] 0 p6.o
theorem LK{a:List Qz}{Kj:List NG}{o:uN}(h:oU a Kj o):((bv a 0/\dR Kj)/\(o.code != 9)=true)\/(¬(bv a 0/\dR Kj)/\(o.code != 9)=false):=by
 rcases h.2 with⟨b,c,f,d⟩|⟨b,rfl⟩
 .refine .inl ⟨⟨b,c⟩, ?_⟩;rcases d.rest with⟨_,e,_⟩ | ⟨_,e,_⟩ <;> rw[e] <;> rfl
 .exact .inr ⟨b,rfl⟩
theorem yM(w:NI)(a:NH)(c:Nat)(b:List Qz)(d:NH)(i:Nat)(Kj:List NG)(l:b.length<=1048576)(m:∀y∈b,y.Fits)(n:Kj.length<=1048576)(p:∀s∈Kj,s.size<=maxLen)(q:bT w a b)(r:Strs w d Kj):
  Calls prog 7 #[.agg #[.slice a b.length c],.slice d Kj.length i] w λe w'=>Says e (bv b 0/\dR Kj)/\K_ w w':=by
 have f:K_ w (w.alloc (.cells #[.slice a b.length c] 25)):=ah _ _;go_enter func7,ntmps7
 go_wp2_with fail
 refine (qi _ a c b d i Kj l m n p (q.kept f) (r.kept f)).mono ?_;rintro e j ⟨o,x,y,t,v,rfl,z,_,_,A⟩;have B:(Instr.field 43 (.agg #[.a o.code,.slice x o.res.length t,.slice y o.chain.length v,.a o.eF,.a o.cost]) 0).run prog j= .ok (.a o.code) j:=F4;go_wp2
 go_ret
 refine⟨?_,f.trans A⟩;show Says (.returned (.bool (o.code != 9))) _;rcases LK z with⟨h,k⟩ | ⟨h,k⟩ <;> rw[k]
 .exact Says.yes h
 .exact Says.no h
theorem IB(w:NI)(a:NH)(c1:Nat)(bs:List UInt8)(hB:BytesAt w a bs)(f6:bs.length<=c1)(d0:gD w):
  Calls prog 3 #[.slice a bs.length c1] w λe w'=>e= .returned (.bool true)/\K_ w w':=by
 by_cases h9:(1048576:Int)<(bs.length:Int)
 .go_enter func3,ntmps3
  go_wp2
  go_ret
  exact⟨rfl,K_.refl _⟩
 go_enter func3,ntmps3
 go_wp2_with fail
 refine (yg _ a c1 bs hB f6 E5).mono ?_;rintro e w1 ⟨q,s,L,g,c,Kj,pa,pc,f7,rfl,hL,d1,hG,f8,i0,d2,hT,i1,d3,hP,k1⟩;obtain⟨W1,a3⟩:=aj (w1.alloc (.cells #[.slice q L.length s] 25));obtain⟨Y,c2⟩:=aj w1.heap.size;have kA:K_ w1 W1:=by rw[a3];exact ah _ _
 have b3:=Kz (k1.trans kA);have f9:W1.heap.size=w1.heap.size+1:=by rw[a3];simp
 have HC:Hid (∀u,K_ W1 u->u.cell? ⟨Y,0,none⟩=some (.slice q L.length s)/\Y<u.heap.size):=λu b=>by
  have hz:=b.size;refine⟨(b.cell E5).trans ?_,E5⟩;rw[a3,c2];exact X_ w1 _ _ 0 _ rfl
 have b4:=Kz (hG.kept kA).nodes;have b5:=Kz (hT.strs.kept kA);have d4:=Kz (hP.kept kA);have c3:=Kz (d0.kept b3.o);have O:Hid (∀d∈L,d.Fits):=λd hd=>(d1 d hd).fits E5
 have P:Hid (∀c4∈Kj,c4.size<=maxLen):=λc4 Q=>by have:=d2 c4 Q;unfold maxLen;omega
 have d5:=Kz d3;go_upto_region 4 with fail
 rw[<-a3,<-c2];clear a3 c2 d1 hG hT hP k1 kA f9 d0 hB d2 d3;obtain⟨m,n⟩:=HC.o W1 (K_.refl _);go_wp2_with fail
 refine (x_ W1 q s L (some ⟨g,0,none⟩) c Kj pa pc f7 E5 O.o E5 f8 P.o E5 d5.o b4.o b5.o d4.o c3.o).mono ?_;intro e M hE;rcases hE with⟨⟨hc,t⟩,T,D,hO,i2,g0,R,S,da,i3,i4,rfl,d6,d7,d8,_,_,_,k2⟩|⟨d9,rfl,k2⟩;rotate_left
 .obtain⟨v,y⟩:=aj (M.alloc (.cells #[M0,M0,M0] 34));obtain⟨j,C⟩:=aj M.heap.size;have f:K_ M v:=by rw[y];exact ah _ _
  have A:=X_ M #[M0,M0,M0] 34;rw[<-y,<-C] at A;have E:j<v.heap.size:=by rw[y,C];simp
  have z:=k2.trans f;have g1:=Kz d9;go_upto_region 5 with fail
  rw[<-y,<-C];clear y C k2 f d9;obtain⟨c0,i5⟩:=HC.o v z;clear m n;go_wp2_with fail
  refine (yM v q s L (some ⟨g,0,none⟩) c Kj E5 O.o E5 P.o (b4.o.kept z) (b5.o.kept z)).mono ?_;rintro e w3 ⟨Q,U⟩;have x0:=(U.cell (o:=0) E).trans (A 0 _ rfl);have x2:=(U.cell (o:=2) E).trans (A 2 _ rfl);have xz:=Mf E U.size;rcases Q.cases with⟨rfl,F⟩|⟨rfl,_⟩
  .exact Nv F g1.o
  clear A Q;go_wp2
  go_ret
  exact⟨rfl,b3.o.trans (z.trans U)⟩
 obtain⟨v,y⟩:=aj (M.alloc (.cells #[.slice R Kj.length Kj.length,.slice S T.length T.length,.slice da D.length D.length] 34));obtain⟨j,C⟩:=aj M.heap.size;have f:K_ M v:=by rw[y];exact ah _ _
 have A:=X_ M #[.slice R Kj.length Kj.length,.slice S T.length T.length,.slice da D.length D.length] 34;rw[<-y,<-C] at A;have E:j<v.heap.size:=by rw[y,C];simp
 have z:=k2.trans f;have V:Hid (∀u,K_ v u->u.cell? ⟨Y,0,none⟩=some (.slice q L.length s)/\u.cell? ⟨j,0,none⟩=some (.slice R Kj.length Kj.length)/\u.cell? ⟨j,1,none⟩=some (.slice S T.length T.length)/\u.cell? ⟨j,2,none⟩=some (.slice da D.length D.length)/\Y<u.heap.size/\j<u.heap.size):=λu b=>by
  obtain⟨W,e2⟩:=HC.o u (z.trans b);exact⟨W,(b.cell E).trans (A 0 _ rfl),(b.cell E).trans (A 1 _ rfl),(b.cell E).trans (A 2 _ rfl),e2,Mf E b.size⟩
 obtain⟨hv,e0,a4,e1⟩:=Dr hc t hO;have⟨HV,g2,g3,e4,e5⟩:=iZ hv e0 a4 e1 a4.1;have c5:Hid (∀r∈T,r.texts.length<=1048576):=λr t=>by have h1:=(a4.1.good r t).tl;have h2:=(a4.1.good r t).hi;omega
 have e6:=Kz (c3.o.kept z);have a5:=Kz (b4.o.kept z);have c6:=Kz (d6.strs.kept f);have b6:=Kz (d7.runs.kept f);have g4:=Kz (d8.strs.kept f);have e7:=Kz (b5.o.kept z);have g5:=Kz (b3.o.trans z);have g6:Hid (bv L 0/\dR Kj):=⟨hc,t⟩;go_upto_region 5 with fail
 rw[<-y,<-C];clear y C k2 f hc t hO hv e0 a4 e1 d6 d7 d8 A E z m n HC b4 b5 d4 d5 c3 b3;obtain⟨m,n,G,B,H,I⟩:=V.o v (K_.refl _);go_wp2_with fail
 refine (yM v q s L (some ⟨g,0,none⟩) c Kj E5 O.o E5 P.o a5.o e7.o).mono ?_;rintro e w3 ⟨Q,f⟩;rcases Q.cases with⟨rfl,_⟩|⟨rfl,F⟩;rotate_left
 .exact Nv g6.o F
 clear Q m n G B H I;obtain⟨m,n,G,B,H,I⟩:=V.o w3 f;go_wp2_with fail
 refine (wB w3 q s L R Kj.length Kj S T.length T E5 O.o E5 P.o E5 c5.o (a5.o.kept f) (b6.o.kept f) (c6.o.kept f)).mono ?_;rintro e w4 ⟨⟨vb,rfl,e8⟩,U⟩;obtain rfl:vb=true:=e8.2 HV.o;have X:=f.trans U;clear e8 f U m n G B H I;obtain⟨m,n,G,B,H,I⟩:=V.o w4 X;go_wp2_with fail
 refine (yD w4 q s L R Kj.length Kj S T.length T E5 O.o F5 (Me _) P.o E5 c5.o (a5.o.kept X) (c6.o.kept X) (b6.o.kept X) (e6.o.kept X)).mono ?_;rintro e w5 ⟨va,ns,rfl,_,e9,k5⟩;obtain rfl:ns=[]:=by
  rcases e9 with⟨_,F⟩|⟨_,F⟩
  .exact F.unique g2.o
  .exact F
 have K5:=X.trans k5;clear e9 k5 X m n G B H I;go_wp2
 go_loopg [7,8] T.length (λgg x7 x8 wr=>∃i:Nat,x7= .a ((pX D (T.take i):Nat):Int)/\x8= .a (i:Int)/\i+gg=T.length/\K_ v wr)
 case atStart=>exact⟨0,rfl,rfl,E5,K5⟩
 case round=>
  obtain⟨i,rfl,rfl,hi,p⟩:=hrel;clear K5;obtain⟨m,n,G,B,H,I⟩:=V.o wr p;by_cases i6:(i:Int)<(T.length:Int)
  .have a6:i<T.length:=E5;obtain⟨tb,i7,xa,xc,rfl,hb,J,_,_⟩:=(b6.o.kept p) i a6;obtain⟨r,t⟩:=aj (T.getD i Q_.zero);rw[<-t] at J;have f0:r∈T:=by rw[t];simp only[List.getD,Mj a6,Nw];exact Mq a6
   obtain⟨n0,b7⟩:=aj (pX D (T.take i));have f1:pX D (T.take (i+1))=n0+kY r.name D:=by
    rw[Ml a6,GM,b7,t];simp only[List.getD,Mj a6,Nw]
   have HN:=Kz f1;have i8:n0<=90000:=by
    have:∀l:List Q_,pX D l<=l.length*D.length:=λl=>by
     induction l with
     | nil=>exact Mg _
     | cons x l ih=>have:=Al x.name D;simp only[pX,List.map_cons,List.sum_cons,MX,Nat.succ_mul] at ih⊢;omega
    have h1:=this (T.take i);have h2:(T.take i).length<=60:=G9;have i9:=Nat.mul_le_mul h2 g0;rw[<-b7] at h1;omega
   have g7:=Kz (e4.o.one e5.o.asc f0);rw[<-b7];have q0:=J 0 _ rfl;have q1:=J 1 _ rfl;have q2:=J 2 _ rfl;have q3:=J 3 _ rfl;have q4:=J 4 _ rfl;have q5:=J 5 _ rfl;have q6:=J 6 _ rfl;rw[M_] at q0;obtain⟨WR,a7⟩:=aj (wr.alloc (.cells #[.string r.name,.bool r.over,.bool r.fail,.string r.text,.a r.at',.a r.Zq,.slice xa r.texts.length xc] 40));obtain⟨rb,b8⟩:=aj wr.heap.size;have kR:K_ wr WR:=by rw[a7];exact ah _ _
   have a8:=X_ wr #[.string r.name,.bool r.over,.bool r.fail,.string r.text,.a r.at',.a r.Zq,.slice xa r.texts.length xc] 40;rw[<-a7,<-b8] at a8;have a9:rb<WR.heap.size:=by rw[a7,b8];simp
   have KR:=p.trans kR;have HQ:Hid (∀u,K_ WR u->u.cell? ⟨j,2,none⟩=some (.slice da D.length D.length)/\u.cell? ⟨rb,0,none⟩=some (.string r.name)/\u.cell? ⟨rb,3,none⟩=some (.string r.text)/\u.cell? ⟨rb,5,none⟩=some (.a r.Zq)/\j<u.heap.size/\rb<u.heap.size):=λu b=>by
    obtain⟨_,_,_,e3,_,g8⟩:=V.o u (KR.trans b);exact⟨e3,(b.cell a9).trans (a8 0 _ rfl),(b.cell a9).trans (a8 3 _ rfl),(b.cell a9).trans (a8 5 _ rfl),g8,Mf a9 b.size⟩
   clear t f0 b7 f1 J;go_upto_region 14 with fail
   rw[<-a7,<-b8];clear a7 b8 q0 q1 q2 q3 q4 q5 q6 m n G B H I a8 a9 kR p;go_wp2
   go_loopg [10,11] D.length (λgg g9 h0 wx=>∃k:Nat,g9= .a ((kY r.name (D.take k):Nat):Int)/\h0= .a (k:Int)/\k+gg=D.length/\K_ WR wx)
   case atStart=>exact⟨0,rfl,rfl,E5,K_.refl _⟩
   case round=>
    obtain⟨k,rfl,rfl,hk,Z⟩:=hrel;obtain⟨m,n,G,B,H,I⟩:=HQ.o _ Z;by_cases j0:(k:Int)<(D.length:Int)
    .have c7:k<D.length:=E5;obtain⟨db,j1,rfl,j2,h3⟩:=(g4.o.kept (KR.trans Z)) k c7;obtain⟨b9,hy⟩:=aj (D.getD k ByteArray.empty);rw[<-hy] at h3;obtain⟨a0,K⟩:=aj (kY r.name (D.take k));have f2:kY r.name (D.take (k+1))=a0+if b9=r.name then 1 else 0:=by
      rw[Ml c7,zu,K,hy];simp only[List.getD,Mj c7,Nw]
     have HM:=Kz f2;have h4:a0<=D.length:=by have:=Al r.name (D.take k);rw[MG,<-K] at this;omega
     rw[<-K];clear hy K f2;cases c8:(b9.toList == r.name.toList)
     .have h5:Hid (b9≠r.name):=λe=>by rw[e] at c8;simp at c8
      go_upto_region 18 with fail
      go_region
      go_wp2
      go_roundg (gk-1)
      case measure=>omega
      case rel=>exact⟨k+1,by rw[HM.o,Nu h5.o];rfl,F3,E5,Z.drew⟩
     .have h6:Hid (b9=r.name):=Fa c8;go_upto_region 18 with fail
      go_region
      go_wp2
      go_roundg (gk-1)
      case measure=>omega
      case rel=>exact⟨k+1,by rw[HM.o,Nt h6.o];go_num,F3,E5,Z.drew⟩
    .have ek:D.take k=D:=MO E5;rw[ek];clear ek;obtain⟨a0,K⟩:=aj (kY r.name D);have h4:a0<=D.length:=by rw[K];exact Al _ _
     have hO:=g7.o;have HM:=Kz K;rw[<-K] at hO⊢;clear K;rcases hO with W|⟨W,e2,e3⟩
     .have j3:((a0:Int) == r.Zq)=true:=by simp[W]
      have HE:=Kz W;clear W;go_wp2
      go_roundg (T.length-i-1)
      case measure=>omega
      case rel=>exact⟨i+1,by (rw[HN.o,<-HM.o];have:=HE.o;simp only[Value.int.injEq,true_and];omega),F3,E5,KR.trans Z⟩
     .have j4:(r.text.toList == [115,112,101,110,116])=true:=by rw[e2,ByteArray.toList_eq];rfl
      rw[e3] at B;obtain rfl:a0=21:=E5;clear W e2 e3;go_wp2
      go_roundg (T.length-i-1)
      case measure=>omega
      case rel=>exact⟨i+1,by (rw[HN.o,<-HM.o];simp only[Value.int.injEq,true_and];omega),F3,E5,KR.trans Z⟩
  .have ei:T.take i=T:=MO E5;rw[ei,e4.o.all e5.o.asc];clear ei;have j5:=V;go_upto_region 23 with fail
   have b0:Hid (∀u,K_ wr u->u.cell? ⟨Y,0,none⟩=some (.slice q L.length s)/\u.cell? ⟨j,0,none⟩=some (.slice R Kj.length Kj.length)/\u.cell? ⟨j,1,none⟩=some (.slice S T.length T.length)/\u.cell? ⟨j,2,none⟩=some (.slice da D.length D.length)/\Y<u.heap.size/\j<u.heap.size):=λu b=>V.o u (p.trans b)
   refine gY 17 b0.o (aV wr) (λh=>?_);have a1:K_ wr wr.drew:=aV wr;generalize h7:wr.drew=wd at h a1⊢;clear h7 m n G B H I;refine au 0 h ?_;refine au 4 h ?_;refine ae 8 h ?_;refine ae 11 h ?_;refine ae 12 h ?_;refine aG 9 (λb1 N=>?_);go_simp
   go_at_call 10
   refine (Ak wd q s L R Kj.length Kj S T.length T E5 O.o F5 (Me _) P.o E5 c5.o (a5.o.kept (p.trans a1)) (c6.o.kept (p.trans a1)) (b6.o.kept (p.trans a1)) (e6.o.kept (p.trans a1))).mono ?_;rintro e w6 ⟨o,y1,y2,y3,y4,_,rfl,f3,_,_,_,_,k6⟩;have h8:=Kz f3;have b2:=a1.trans k6;have j6:∀u,(Instr.field 43 (.agg #[.a o.code,.slice y1 o.res.length y3,.slice y2 o.chain.length y4,.a o.eF,.a o.cost]) 3).run prog u= .ok (.a o.eF) u:=λu=>F4
   clear f3 k6;dsimp only;refine af N (λ_=>b0.o _ b2) ?_;clear N b1 h;have h:=b0.o _ b2;refine ae 10 h ?_;refine aG 13 (λb1 N=>?_);go_simp
   go_at_call 11
   refine (qi w6 q s L (some ⟨g,0,none⟩) c Kj E5 O.o E5 P.o (a5.o.kept (p.trans b2)) (e7.o.kept (p.trans b2))).mono ?_;rintro e w7 ⟨a2,z1,z2,z3,z4,rfl,f4,_,_,k7⟩;have f5:a2.eF=o.eF:=(Et HV.o g3.o h8.o f4).symm;have c9:=b2.trans k7;have j7:∀u,(Instr.field 43 (.agg #[.a a2.code,.slice z1 a2.res.length z3,.slice z2 a2.chain.length z4,.a a2.eF,.a a2.cost]) 3).run prog u= .ok (.a o.eF) u:=λu=>by rw[<-f5];kernel_rfl
   clear f4 k7 f5;dsimp only;refine af N (λ_=>b0.o _ c9) ?_;clear N b1 h;have h:=b0.o _ c9;refine ae 14 h ?_;refine ae 15 h ?_;refine ae 16 h ?_;refine ai 17 (λb1 N=>?_);go_simp
   refine af N (λF=>Nv rfl F) ?_;clear N b1;refine aF ?_;go_wp2
   go_ret
   exact⟨rfl,g5.o.trans (p.trans c9)⟩
open Go.ChangeShapes Go.WideShapes Go.ChangeAt Go.RowKit
def laid3 {H : Type} : List (String × DataW H) := [("math/bits.deBruijn32tab", Rows.laid_math_bits_deBruijn32tab), ("math/bits.deBruijn64tab", Rows.laid_math_bits_deBruijn64tab), ("internal/strconv.uint64pow10", Rows.laid_internal_strconv_uint64pow10)]
theorem Tryz.gTab : Tryz.prog.globalNamed "math/bits.deBruijn64tab" = some 3 := by kernel_rfl
theorem Tryz.tTab :(prog.globals[3]?).map (·.type)=some 300:=F4
theorem Io(os:Os)(args:Array NJ):laidMetH prog laid3 ((World.doorLaid prog 400 os).forCall (λ_ _=>0) ⟨#[],args,[]⟩).memory:=
 laidMetH_of_parts3 (fuel:=8) (laidMet_of_run' 8 F4 F4) F4 F4
theorem CU{W:NI}(h:laidMetH prog laid3 W):nS W:=by
 rw[MakeChecks.laidMetH_plain _ _ _ F4] at h;obtain⟨y,⟨z,A,B,C,D,E,F,G,H,I,⟨J,K,j,L,M,N,c,k,m,n,_,_⟩,_⟩,_,_⟩:=h;obtain rfl:=Ng (Tryz.gTab.symm.trans c);obtain rfl:=Ng (Tryz.tTab.symm.trans k);obtain⟨p,O,rfl,d,P,q,r⟩:=DataW.trod_array underlying300 n;have s:prog.cellsOf 5=1:=F4;have e:=r 15 E8;simp only[Prod.mk.injEq,Rows.laid_math_bits_deBruijn64tab,DataW.agg.injEq] at d;have f:15<p.length:=by rw[q];decide
 have a:=congrArg (λl=>l[15]?) d.1;simp only[List.getElem?_map,Mj f,Option.map_some] at a;rw[Mj f] at e;obtain⟨t,i,v,_⟩:=DataW.trod_int underlying5 e;have w:t=4:=by
  rw[v] at a;simpa using a.symm
 subst w;have b:=World.var?_cell c m 15;rw[s] at i;have x:j.toList[15]? =some (.int .u8 4):=by
  have:=congrArg (λl=>l[0]?) i;simpa[List.getElem?_take,List.getElem?_drop] using this
 rw[<-Array.getElem?_toList,x] at b;exact⟨World.block_lt_of_cell? _ _ b,b⟩
open Go.ChangeShapes Go.WideShapes Go.ChangeAt Go.RowKit Go.Joins Go.ChangeMaps
theorem Tryz.Mc :ownKnob prog.godebug=none:=F4
theorem Tryz.GV :laidOutB prog=true:=F4
theorem yn{w:NI}(h:nS w):gD w:=λW give a b l k c d e f=>Ea W give a b l c d e f (h.kept k)
theorem CB(os:Os)(r:os.Started)(H:Type)(enc:TypeId×NJ->H):
  ReturnsInHanded {} Tryz.checked os 3 .any (λw args=>(Rows.fnHeartSpec.pre enc prog f3 [] false w args/\laidMetH prog laid3 w)/\sizedMet enc prog f3 (OpenSpec.ofChange Rows.fnHeartSpec) false w args)
   (Rows.fnHeartSpec.post enc prog f3 false true false false):=by
 refine returnsInHanded_of_change_and (C:=Tryz.checked) (X:=λw _=>laidMetH prog laid3 w) (λ_ _ _ s h=>h.of_heap s) Tryz.Mc r F4 func3
  (ChangeSpec.witness_shaped (enc:=enc) (C:=Tryz.checked) (os:=os) (X:=λw _=>laidMetH prog laid3 w) false (World.doorLaid prog 400 os) #[M0] 8 rfl (World.shaped_of_RefB F4 F4) F4 F4 F4 (Io os _)) ?_
 intro W base args y S before c d _ _ z _;have e:∀(j:Nat) t v,f3.params[j]? =some t->args[j]? =some v->Value.okWide prog W .any base t v:=c;have f:=d;obtain⟨A,T,i,B,rfl,U,V⟩:=d;have k:DataW.TrodAll enc prog W 0 (λ_=>true) true f3.params.toList args.toList y A:=i;rw[params3] at k e;obtain⟨l,Y,Z,a0,D,q0,a1,rfl,rfl,m,E⟩:=trodAll_cons k;obtain⟨rfl,rfl,rfl⟩:=trodAll_nil E;obtain rfl:args= #[l]:=by cases args;simp_all
 obtain⟨rfl,rfl⟩:=trodVars_none B;have b:=m;have F:∀x∈D,x.block<W.heap.size:=by obtain⟨G,I⟩:=b;exact DataW.trod_lt G _ _ _ I
 obtain⟨J,K,L,rfl⟩:=okWide_slice underlying22 (e 0 22 l rfl rfl);obtain⟨a2,M⟩:=m;obtain⟨a,n,p,N,O,hl,P⟩:=FK M;have Q:Value.slice J K L= .slice a n.length p:=by simpa[Value.cells] using N
 rw[Q] at b f⊢;clear i c;refine (IB W a p n O P (yn (CU z))).mono λa3 W' ⟨R,q⟩=>?_
 subst R;exact⟨_,rfl,_,_,_,[],_,[],f,trodAll_mk1 (shut_bool underlying4 _),(trodAll_cons_mk (Below.trod Tryz.GV F4 (of_decide_eq_true F4) b q F) trodAll_mk0),rfl,Below.frame q _,λh=>by cases h⟩
theorem DY :Rows.FnHeartSaid:=
 OpenClaim.holds_of_wide 3 f3 rfl rfl rfl rfl rfl rfl rfl ⟨rfl,rfl,rfl,rfl,rfl⟩ rfl rfl rfl rfl rfl F4 func3 F4
  (of_decide_eq_true F4) (by unfold Func.isWrapper;first | (rw[Nt (by decide+kernel)];kernel_rfl) | (rw[Nu (by decide+kernel)];exact⟨rfl,rfl⟩))
  (λa b H d _=>CB a b H d)
theorem heartCardHolds :Rows.FnHeartCardSaid:=
 Claim7.holds_tied_plain_at .later [] [.data,.data,.data] true Rows.fnHeartCard.stood.harness Rows.fnHeartCard.stood.looks
  DY (λ_ h=>by cases h) F4 (λ_ h=>by cases h) fnHeart_row_tie rfl ⟨rfl,rfl⟩ F4 rfl
  (λf b c d=>by
   obtain rfl:f=3:=Ng ((show prog.funcNamed Rows.fnHeartRow.func=some 3 by kernel_rfl).symm.trans c) |>.symm;obtain rfl:b=f3:=(Ng (func3.symm.trans d)).symm;exact⟨F4,λj t a=>by
    rw[params3] at a;have e:t∈[22]:=by simpa using Array.mem_of_getElem? a
    have i:([22].all λu=>!prog.wantsStandIn u)=true:=F4;exact (show prog.wantsStandIn t=false by simpa using List.all_eq_true.1 i t e)⟩)
  F4
