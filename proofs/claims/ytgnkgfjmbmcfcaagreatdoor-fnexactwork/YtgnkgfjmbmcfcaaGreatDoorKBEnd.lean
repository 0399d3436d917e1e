import Derived.Test.YtgnkgfjmbmcfcaaGreatDoorKBTask
set_option maxRecDepth 100000
set_option maxHeartbeats 25600000
namespace Go.Proofs.YtgnkgfjmbmcfcaaGreatDoor
open Go.RowKit Go.Proofs.Tryz
section
variable {G : cO} {Kq : List Qz} {wz w w' : Qy} {bb : Nat} {a : Qx} {cap : Nat} {rd : Qx} {rn rc : Nat} {mb mx : Nat} {ts : List Zk} {d : Qx} {dc : Nat} {f : Qw -> QA} {ws : Qw -> List Nat}
theorem BM.store(h:BM G Kq wz w bb a cap rd rn rc mb mx ts d dc f ws){i:Nat}{t t':Zk}(hi:ts[i]? =some t){o:Nat}{v:QA}(z:o<12)(e:t'.cells=t.cells.set o v)(j:t'.tb=t.tb)(A:t'.r.name=t.r.name)(B:t'.cost=t.cost)(C:t'.steps=t.steps)(D:t'.sa=t.sa)(n:t'.tv=t.tv)(q:t'.qv=t.qv)(s:t'.qs=t.qs)(E:t'.r.texts=t.r.texts):
  BM G Kq wz (w.setCell ⟨t.tb,o,none⟩ v) bb a cap rd rn rc mb mx (ts.set i t') d dc f ws:=by
 obtain⟨k,rfl⟩:=O_.1 hi;have b:=h.fu _ (Pf k);have l:But (fun c=>c=ts[i].tb) w (w.setCell ⟨ts[i].tb,o,none⟩ v):=But.set (S:=fun c=>c=ts[i].tb) (But.aj (K_.refl w)) (p:=⟨ts[i].tb,o,none⟩) rfl v;have ne:∀x∈ts[i].own,x≠ts[i].tb:=fun x m=>aA (b.dY m).1 b.row.type (by decide)
 have y:t'.own=ts[i].own:=by unfold Zk.own;rw[n,q]
 refine h.turn k l (fun c g=>.inl g) ⟨by rw[j];exact b.row.set v,by rw[j,e];exact ql b.rng b.row.row z v, ?_, ?_,by rw[j];exact b.low⟩ j A B C D (fun x m=>.inl (by rw[<-y];exact m)) (by rw[y];exact h.Ad _ (Pf k)) (by rw[s];exact h.qb _ (Pf k))
 ·rw[n,E];exact l.owns b.txt (fun c g=>ne c (Pe.2 (.inl (PH.2 g))))
 ·rw[q,s];exact l.owns b.ask (fun c g=>ne c (Pe.2 (.inr (PH.2 g))))
theorem BM.at(h:BM G Kq wz w bb a cap rd rn rc mb mx ts d dc f ws){i:Nat}{t:Zk}(hi:ts[i]? =some t):lJ wz.heap.size w t:=h.fu t (Pj hi)
theorem Tryz.Nl(w:Qy):(zeroValue 123).run prog w= .ok (.slice none 0 0) w:=by kernel_rfl
theorem Tryz.keyed :Maps.Keyed prog 9:=Maps.string_keyed underlying9
theorem BM.look(h:BM G Kq wz w bb a cap rd rn rc mb mx ts d dc f ws){s:Qw}(c:s.size<=maxLen):(Instr.lookup 122 (.map (some mb)) (.string s) false).run prog w= .ok (f s) w:=by
 obtain⟨N,D,_,g,i⟩:=h.map;obtain⟨v,l,j,b⟩:=g.lookup Tryz.keyed underlying122 (Tryz.Nl w) (zd:= .held (.slice none 0 0)) (zp:=[]) rfl (WideMaps.keyOf_string_mk underlying9 c);have e:=i s c;unfold asIs at b;simp only[PN,Prod.mk.injEq] at b;have k:(DataW.held v:DataW QA)= .held (f s):=b.1.trans e;cases k;exact j
theorem gH{s b:Qw}(h:s≠b):bT s≠bT b:=fun e=>h (by
 unfold bT at e;simp only[Lit.string.injEq] at e;exact Cn e)
theorem BM.del(h:BM G Kq wz w bb a cap rd rn rc mb mx ts d dc f ws){s:Qw}(v:s.size<=maxLen)(m:TypeId):∃w',(Builtin.delete_ #[122,9] m #[.map (some mb),.string s]).run prog w= .ok (.tuple #[]) w'/\But (fun b=>b=mb) w w'/\BM G Kq wz w' bb a cap rd rn rc mb mx ts d dc (fun n=>if n=s then .slice none 0 0 else f n) (fun n=>if n=s then [] else ws n):=by
 obtain⟨N,I,y,p,z⟩:=h.map;obtain⟨w',A,B,C⟩:=p.drop Tryz.keyed underlying122 (WideMaps.keyOf_string_mk underlying9 v) m;have k:But (fun b=>b=mb) w w':=But.aQ C.grown (fun b e=>(PW e).symm);refine⟨w',A,k, ?_⟩;have ne:∀{b:Nat} {t:TypeId},bZ w b t->¬b=mb:=fun D e=>ib p D e
 have j:=h.row.lt;have g:=ne h.row.type;have E:Fen G w' bb mb ts (fun n=>if n=s then .slice none 0 0 else f n):=by
  have i:=h.oth.but k (fun b e=>by rw[e];exact h.oth.nm);refine⟨i.size,i.lt,i.same,i.nb,i.nm,i.nt,fun n x c=>?_,i.has⟩;by_cases e:n=s
  ·simp only[Qg e] at c;cases c
  ·simp only[Qh e] at c;exact h.oth.nf n x c
 refine⟨k.kept h.kw (fun b e=>by rw[e];exact h.CG),k.row h.row g,(k.cell j g).trans h.c0,(k.cell j g).trans h.c1,(k.cell j g).trans h.c2,(k.cell j g).trans h.c3,(k.cell j g).trans h.c4,(k.cell j g).trans h.c5,h.low,k.owns h.items (fun b e=>ne (Y_ h.items e)),fun t l=>(h.fu t l).but k (ne (h.fu t l).row.type) (fun x c=>ne ((h.fu t l).dY c).1),h.act,h.asc,h.tbs,h.sep,h.Ad,⟨N,_,y,B,fun n F=>?_⟩,h.CG,fun n=>?_,fun n q H x c=>?_,fun n x c=>?_,h.qb,E,h.gi⟩
 ·by_cases e:n=s
  ·rw[Qg e,e];exact Maps.atKey_del_same _
  ·rw[Qh e,<-z n F];exact Maps.atKey_del_other (gH e) _
 ·by_cases e:n=s
  ·simp only[Qg e];exact PU _ _ _ _
  ·simp only[Qh e];exact k.owns (h.iU n) (fun b e=>ne (Y_ (h.iU n) e))
 ·by_cases e:n=s
  ·rw[Qg e] at c;cases c
  ·rw[Qh e] at c;by_cases r:q=s
   ·rw[Qg r];intro h;cases h
   ·rw[Qh r];exact h.Af n q H x c
 ·by_cases e:n=s
  ·rw[Qg e] at c;cases c
  ·rw[Qh e] at c;exact h.CF n x c
end
def iZ(ts:List Zk)(l:List Nat):List Zk:=ts.map fun t=>if t.tb∈l then {t with op:=t.op-1} else t
theorem DR{ts:List Zk}{l:List Nat}{i:Nat}(h:i<(iZ ts l).length)(hi:i<ts.length):(iZ ts l)[i]=if ts[i].tb∈l then {ts[i] with op:=ts[i].op-1} else ts[i]:=by simp[iZ]
theorem Ec(ts:List Zk):iZ ts []=ts:=by simp[iZ]
theorem Av{ts:List Zk}{l:List Nat}{b j:Nat}{t:Zk}(m:(ts.map (·.tb)).Nodup)(n:b∉l)(p:ts[j]? =some t)(d:t.tb=b):iZ ts (l++ [b])= (iZ ts l).set j {t with op:=t.op-1}/\(iZ ts l)[j]? =some t:=by
 obtain⟨f,rfl⟩:=O_.1 p;have q:(iZ ts l)[j]? =some ts[j]:=by
  unfold iZ;rw[List.getElem?_map,OZ f];simp only[Option.map_some,PN];rw[Qh (by rw[d];exact n)]
 refine⟨?_,q⟩;apply List.ext_getElem
 ·simp[iZ]
 ·intro i g s;have a:i<ts.length:=by simpa[iZ] using g
  rw[Qv,DR g a];by_cases e:j=i
  ·subst e;rw[Qg rfl,Qg (by rw[d];simp)]
  ·rw[Qh e,DR (by simpa[iZ] using a) a];have r:ts[i].tb≠b:=by
    rw[<-d];have k:=Pg.1 m;rcases Nat.lt_or_gt_of_ne e with h|h
    ·have:=k j i (by simpa using f) (by simpa using a) h;simp at this;exact fun e=>this e.symm
    ·have:=k i j (by simpa using a) (by simpa using f) h;simpa using this
   by_cases c:ts[i].tb∈l
   ·rw[Qg c,Qg (Pe.2 (.inl c))]
   ·rw[Qh c,Qh (by rw[Pe,Pd];rintro (h|h);exact c h;exact r h)]
theorem Tryz.Nk(w:Qy):(zeroValue 3).run prog w= .ok (.int .i64 0) w:=by kernel_rfl
def gK(w:Qy)(qb mx:Nat)(g:Qw->Option Int):Prop:=
 ∃N D,N<=mx/\w.ownsMap prog 9 asIs qb N D/\(∀s:Qw,s.size<=maxLen->D.atKey (bT s) (.held (.int .i64 0))= .held (.int .i64 ((g s).getD 0)))/\∀s:Qw,Maps.has D (bT s)=true↔(g s).isSome=true
variable {s : Qw}
section
variable {w w' : Qy} {qb mx : Nat} {g : Qw -> Option Int}
theorem gK.but{S:Nat->Prop}(h:gK w qb mx g)(k:But S w w')(a:¬S qb):gK w' qb mx g:=by
 obtain⟨N,D,b,c,d⟩:=h;exact⟨N,D,b,iB c k a,d⟩
theorem gK.ne(h:gK w qb mx g){b:Nat}{t:TypeId}(k:bZ w b t):b≠qb:=by
 obtain⟨N,D,_,c,_⟩:=h;exact ib c k
theorem gK.lt(h:gK w qb mx g):qb<w.heap.size:=by
 obtain⟨N,D,_,b,_⟩:=h;exact b.lt
theorem gK.new(w:Qy):gK (w.alloc (.map #[] 0)) w.heap.size 0 (fun _=>none):=
 ⟨0,_,OU _,World.ownsMap_made w _ _ _,fun _ _=>rfl,fun _=>Iff.intro (fun h=>by cases h) (fun h=>by cases h)⟩
theorem gK.look(h:gK w qb mx g)(b:s.size<=maxLen):(Instr.lookup 130 (.map (some qb)) (.string s) false).run prog w= .ok (.int .i64 ((g s).getD 0)) w:=by
 obtain⟨N,D,_,c,d,_⟩:=h;obtain⟨v,j,e,a⟩:=c.lookup Tryz.keyed underlying130 (Tryz.Nk w) (zd:= .held (.int .i64 0)) (zp:=[]) rfl (WideMaps.keyOf_string_mk underlying9 b);have f:=d s b;unfold asIs at a;simp only[PN,Prod.mk.injEq] at a;have i:(DataW.held v:DataW QA)= .held (.int .i64 ((g s).getD 0)):=a.1.trans f;cases i;exact e
theorem gK.OO(k:gK w qb mx g)(h:s.size<=maxLen):(Instr.lookup 130 (.map (some qb)) (.string s) true).run prog w= .ok (.tuple #[.int .i64 ((g s).getD 0),.bool (g s).isSome]) w:=by
 obtain⟨N,D,_,⟨r,t,l,F,_,rfl⟩,m,i⟩:=k;have j:=m s h;rcases Maps.fit_look true Tryz.keyed underlying130 (Tryz.Nk w) l F (WideMaps.keyOf_string_mk underlying9 h) with⟨b,v,a⟩|⟨n,x,y,z,b,c,a,A⟩
 ·have d:=(a _).symm.trans j;have e:=Maps.has_false_of_atKey a;have p:(g s).isSome=false:=by
   cases q:(g s).isSome
   ·rfl
   ·have:=(i s).2 q;exact Qi (e.symm.trans this) (by simp)
  rw[p,b];have f:(Value.int .i64 0)= .int .i64 ((g s).getD 0):=by injection d
  rw[<-f]
  rfl
 ·have d:=(a _).symm.trans j;have e:=(i s).1 (Maps.has_true_of_atKey a);unfold asIs at c;simp only[PN] at c;subst c;have f:n.val= .int .i64 ((g s).getD 0):=by injection d
  rw[e,b,f]
  rfl
theorem gK.put(h:gK w qb mx g)(i:s.size<=maxLen)(c:Int)(v:mx<=1000000):
  ∃w2,(Instr.mapUpdate 130 (.map (some qb)) (.string s) (.int .i64 c)).run prog w= .ok () w2/\gK w2 qb (mx+1) (fun n=>if n=s then some c else g n)/\But (fun b=>b=qb) w w2:=by
 obtain⟨N,D,x,a,j,l⟩:=h;obtain⟨w2,m,p,q⟩:=a.update Tryz.keyed underlying130 (by unfold maxLen;omega) (WideMaps.keyOf_string_mk underlying9 i) (d:= .held (.int .i64 c)) (ps:=[]) rfl;have r:But (fun b=>b=qb) w w2:=But.aQ q (fun b e=>(PW e).symm);have f:Maps.IsMap D:=by obtain⟨y,z,_,_,_,rfl⟩:=a;exact⟨_,rfl⟩
 refine⟨w2,m,⟨N+1,_,by omega,p,fun n t=>?_,fun n=>?_⟩,r⟩
 ·by_cases e:n=s
  ·simp only[Qg e];rw[e];exact Maps.atKey_put_same (k:=bT s) f (by show WideAt.IsKeyLit (.string _);exact trivial) _ _
  ·simp only[Qh e];rw[<-j n t];exact Maps.atKey_put_other (gH e) _ _
 ·by_cases e:n=s
  ·simp only[Qg e];rw[e];exact⟨fun _=>rfl,fun _=>Maps.has_put_same (k:=bT s) f (by show WideAt.IsKeyLit (.string _);exact trivial) _⟩
  ·simp only[Qh e];rw[<-l n];exact Eq.to_iff (congrArg (· =true) (Maps.has_put_other (gH e) _))
theorem gK.del(h:gK w qb mx g)(c:s.size<=maxLen)(a:TypeId):
  ∃w2,(Builtin.delete_ #[130,9] a #[.map (some qb),.string s]).run prog w= .ok (.tuple #[]) w2/\gK w2 qb mx (fun n=>if n=s then none else g n)/\But (fun b=>b=qb) w w2:=by
 obtain⟨N,D,d,f,i,j⟩:=h;obtain⟨w2,k,l,m⟩:=f.drop Tryz.keyed underlying130 (WideMaps.keyOf_string_mk underlying9 c) a;have p:But (fun b=>b=qb) w w2:=But.aQ m.grown (fun b e=>(PW e).symm);refine⟨w2,k,⟨N,_,d,l,fun n q=>?_,fun n=>?_⟩,p⟩
 ·by_cases e:n=s
  ·simp only[Qg e];rw[e];exact Maps.atKey_del_same _
  ·simp only[Qh e];rw[<-i n q];exact Maps.atKey_del_other (gH e) _
 ·by_cases e:n=s
  ·simp only[Qg e];rw[e];exact Iff.intro (fun h=>by have r:Maps.has (D.del (bT s)) (bT s)=false:=Maps.has_del_same;exact Qi (r.symm.trans h) (by simp)) (fun h=>by cases h)
  ·simp only[Qh e];rw[<-j n];exact Eq.to_iff (congrArg (· =true) (Maps.has_del_other (gH e)))
end
theorem Ic{ts:List Zk}{l:List Nat}{i:Nat}{t:Zk}(h:ts[i]? =some t):∃u,(iZ ts l)[i]? =some u/\u.tb=t.tb/\u.r=t.r:=by
 refine⟨if t.tb∈l then {t with op:=t.op-1} else t,by unfold iZ;rw[List.getElem?_map,h];rfl, ?_, ?_⟩
 ·by_cases h:t.tb∈l
  ·rw[Qg h]
  ·rw[Qh h]
 ·by_cases h:t.tb∈l
  ·rw[Qg h]
  ·rw[Qh h]
def Zk.ended(t:Zk)(fl:Bool)(tx:Qw):Zk:={t with r:={t.r with over:=true,fail:=fl,text:=tx}}
section
variable {G : cO} {Kq : List Qz} {wz w w' : Qy} {bb : Nat} {a : Qx} {cap : Nat} {rd : Qx} {rn rc : Nat} {mb mx : Nat} {ts : List Zk} {d : Qx} {dc : Nat} {f : Qw -> QA} {ws : Qw -> List Nat}
theorem BM.ended(j:BM G Kq wz w bb a cap rd rn rc mb mx ts d dc f ws){i:Nat}{t:Zk}(hi:ts[i]? =some t)(b:Bool)(c:Qw):BM G Kq wz (((w.setCell ⟨t.tb,1,none⟩ (.bool true)).setCell ⟨t.tb,2,none⟩ (.bool b)).setCell ⟨t.tb,3,none⟩ (.string c)) bb a cap rd rn rc mb mx (ts.set i (t.ended b c)) d dc f ws:=by
 have e:i<ts.length:=(O_.1 hi).1;have k:=j.store (t':={t with r:={t.r with over:=true}}) hi (o:=1) (v:= .bool true) (by omega) rfl rfl rfl rfl rfl rfl rfl rfl rfl rfl;have g:=k.store (t':={t with r:={t.r with over:=true,fail:=b}}) (Qe e) (o:=2) (v:= .bool b) (by omega) rfl rfl rfl rfl rfl rfl rfl rfl rfl rfl;rw[List.set_set] at g;have h:=g.store (t':=t.ended b c) (Qe e) (o:=3) (v:= .string c) (by omega) rfl rfl rfl rfl rfl rfl rfl rfl rfl rfl;rw[List.set_set] at h;exact h
theorem nY(hB:BM G Kq wz w bb a cap rd rn rc mb mx ts d dc f ws){i:Nat}{t:Zk}(hi:ts[i]? =some t)(B:Bool)(C:Qw)(b6:t.r.name.size<=1000)(b7:(ws t.r.name).length<=1000)(hw:∀b∈ws t.r.name,∃(j:Nat) (u:Zk),(ts.set i (t.ended B C))[j]? =some u/\u.tb=b/\1<=u.op/\u.op<=1000)(b0:(ws t.r.name).Nodup):
  Calls prog 178 #[.pointer (some ⟨bb,0,none⟩),.pointer (some ⟨t.tb,0,none⟩),.bool B,.string C] w fun e w'=>e= .returned (.tuple #[])/\BM G Kq wz w' bb a cap rd rn rc mb mx (iZ (ts.set i (t.ended B C)) (ws t.r.name)) d dc (fun n=>if n=t.r.name then .slice none 0 0 else f n) (fun n=>if n=t.r.name then [] else ws n):=by
 obtain⟨p,hm⟩:=ag ((ws t.r.name).length);have Q:=hB.at hi;obtain⟨⟨_,x1⟩,f1⟩:=Q.row.row.at (i:=1) (by omega);obtain⟨⟨_,x2⟩,f2⟩:=Q.row.row.at (i:=2) (by omega);obtain⟨⟨_,x3⟩,f3⟩:=Q.row.row.at (i:=3) (by omega);have tz:=Q.row.lt;obtain⟨W1,a1⟩:=ag (((w.setCell ⟨t.tb,1,none⟩ (.bool true)).setCell ⟨t.tb,2,none⟩ (.bool B)).setCell ⟨t.tb,3,none⟩ (.string C));have a0:BM G Kq wz W1 bb a cap rd rn rc mb mx (ts.set i (t.ended B C)) d dc f ws:=by
  rw[a1];exact hB.ended hi B C
 obtain⟨va,vc,hf⟩:=aG (a0.iU t.r.name);rw[<-hm] at hf;have b1:i<ts.length:=(O_.1 hi).1;have a2:(ts.set i (t.ended B C))[i]? =some (t.ended B C):=by rw[Qe b1]
 obtain⟨T1,a3⟩:=ag (ts.set i (t.ended B C));rw[<-a3] at a0 a2 hw⊢;have⟨b8,F,a4,Hf,E⟩:=dX a3 a0 a2 hf hm;have⟨HW,HN⟩:=aD hw b0;have b9:p<=1000:=by omega
 have R:Hid (∀w',K_ W1 w'->w'.cell? ⟨bb,5,none⟩=some (.map (some mb))/\w'.cell? ⟨t.tb,0,none⟩=some (.string t.r.name)/\(Instr.lookup 122 (.map (some mb)) (.string t.r.name) false).run prog w'= .ok (.slice va p vc) w'):=fun w' K=>⟨(F.o.kept K).c5,((F.o.kept K).at a4.o).rng 0 _ rfl,by rw[<-Hf.o];exact (F.o.kept K).look (by unfold maxLen;omega)⟩
 clear hB a0 Q hi a2 a3 hf hm hw b0 b1;go_enter func178,ntmps178
 go_upto_region 1 with fail
 rw[<-a1];clear a1 x1 x2 x3 f1 f2 f3 tz;refine aR 10 R.o fun wd q m=>?_
 refine af 0 m ?_;refine af 4 m ?_;refine ae 8 m ?_;refine ae 9 m ?_;refine wK 10 11 (fun K c=>?_) (fun K c=>?_)
 ·rw[Qg (by rfl)];go_simp
  refine c.out _ _ (fun _=>R.o _ q) ?_;clear c K;try simp only[Act.put,upA,upB,upC]
  refine ay 11 (fun K c=>?_);go_simp
  refine c.out _ _ (fun _=>R.o _ q) ?_;clear c K;try simp only[Act.put,upA,upB,upC]
  refine az ?_;have S:=Kz (F.o.kept q);clear m;go_wp2
  go_loopw [35] (fun H wr=>∃k:Nat,k<=p/\H= .int .i64 k/\BM G Kq wz wr bb a cap rd rn rc mb mx (iZ T1 ((ws t.r.name).take k)) d dc f ws) (fun H _=>p-(intOf H).toNat)
  case atStart=>exact⟨0,OW _,rfl,by rw[List.take_zero,Ec];exact S.o⟩
  case round=>
   clear S q;obtain⟨k,hk,rfl,g⟩:=hrel;by_cases b2:k<p
   ·obtain⟨h,x⟩:∃h,(ws t.r.name)[k]? =some h:=⟨_,OZ (by have:=E.o;omega)⟩;have T:h∈ws t.r.name:=Pj x;obtain⟨j,u,U,I,b3,b4⟩:=HW.o h T;have y:(ws t.r.name).take (k+1)= (ws t.r.name).take k++ [h]:=by
     obtain⟨z,A⟩:=O_.1 x;rw[Pb z,A]
    have V:h∉(ws t.r.name).take k:=fun J=>by
     have a5:=HN.o;obtain⟨z,A⟩:=O_.1 x;obtain⟨a6,hq,e⟩:=Ph J;rw[Pt] at hq;rw[PI] at e;have:=Pg.1 a5 a6 k (by omega) z (by omega);exact this (e.trans A.symm)
    obtain⟨L,M⟩:=Av F.o.tbs V U I;rw[<-y] at L;have D:=g.at M;have o9:wr.cell? ⟨u.tb,9,none⟩=some (.int .i64 (u.op:Int)):=D.rng 9 _ rfl;have uz:=D.row.lt;obtain⟨_,g9⟩:=D.row.row.at (i:=9) (by omega);have N:=g.iU t.r.name;rw[Hf.o] at N;obtain⟨b,o,rfl,hb,W⟩:=dO (by have:=N;rw[<-E.o] at this;exact this) k (by simp;have:=E.o;omega);have c0:wr.cell? ⟨b,o+k,none⟩=some (.pointer (some ⟨u.tb,0,none⟩)):=by rw[W k (xH h) (by simp[x]),<-I];rfl
    have O:=Kz (g.store (t':={u with op:=u.op-1}) M (o:=9) (v:= .int .i64 ((u.op-1:Nat):Int)) (by omega) rfl rfl rfl rfl rfl rfl rfl rfl rfl rfl);rw[<-L] at O;have X:((u.op-1:Nat):Int)= (u.op:Int)-1:=by omega
    rw[X] at O;have i0:(k:Int)<(p:Int):=by omega
    clear W N D L M y V T x U I X g;go_wp2
    go_roundw
    case rel=>exact⟨k+1,by omega,by go_num,O.o⟩
    case measure=>simp[intOf];omega
   ·obtain rfl:k=p:=by omega
    have y:(ws t.r.name).take k=ws t.r.name:=by rw[E.o];exact PE
    rw[y] at g;have P:=Kz g;clear g y;have a7:=Kz (Ic (l:=ws t.r.name) a4.o);have a8:Hid (∀w',K_ wr w'->w'.cell? ⟨bb,5,none⟩=some (.map (some mb))/\w'.cell? ⟨t.tb,0,none⟩=some (.string t.r.name)):=fun w' K=>⟨(P.o.kept K).c5,by obtain⟨u,z,A,h3⟩:=a7.o;have Y:=((P.o.kept K).at z).rng 0 _ rfl;rw[A,h3] at Y;exact Y⟩
    go_upto_region 6 with fail
    refine aR 9 a8.o fun wd q m=>?_
    refine af 0 m ?_;refine af 4 m ?_;refine ae 8 m ?_;obtain⟨w9,b5,_,Z⟩:=(P.o.kept q).del (s:=t.r.name) (by unfold maxLen;omega) 0;have a9:=Kz Z;clear Z;refine ax 9 (fun K c=>?_);go_simp
    refine c.out _ _ (fun J=>Qi rfl J) ?_;clear c K;try simp only[Act.put,upA,upB,upC]
    refine az ?_;go_wp2
    go_end0
    exact⟨rfl,a9.o⟩
 ·rw[Qg (by rfl)];go_simp
  refine c.out _ _ (fun _=>R.o _ q) ?_;clear c K;try simp only[Act.put,upA,upB,upC]
  refine ay 10 (fun K c=>?_);go_simp
  refine c.out _ _ (fun _=>R.o _ q) ?_;clear c K;try simp only[Act.put,upA,upB,upC]
  refine az ?_;have S:=Kz (F.o.kept q);clear m;go_wp2
  go_loopw [35] (fun H wr=>∃k:Nat,k<=p/\H= .int .i64 k/\BM G Kq wz wr bb a cap rd rn rc mb mx (iZ T1 ((ws t.r.name).take k)) d dc f ws) (fun H _=>p-(intOf H).toNat)
  case atStart=>exact⟨0,OW _,rfl,by rw[List.take_zero,Ec];exact S.o⟩
  case round=>
   clear S q;obtain⟨k,hk,rfl,g⟩:=hrel;by_cases b2:k<p
   ·obtain⟨h,x⟩:∃h,(ws t.r.name)[k]? =some h:=⟨_,OZ (by have:=E.o;omega)⟩;have T:h∈ws t.r.name:=Pj x;obtain⟨j,u,U,I,b3,b4⟩:=HW.o h T;have y:(ws t.r.name).take (k+1)= (ws t.r.name).take k++ [h]:=by
     obtain⟨z,A⟩:=O_.1 x;rw[Pb z,A]
    have V:h∉(ws t.r.name).take k:=fun J=>by
     have a5:=HN.o;obtain⟨z,A⟩:=O_.1 x;obtain⟨a6,hq,e⟩:=Ph J;rw[Pt] at hq;rw[PI] at e;have:=Pg.1 a5 a6 k (by omega) z (by omega);exact this (e.trans A.symm)
    obtain⟨L,M⟩:=Av F.o.tbs V U I;rw[<-y] at L;have D:=g.at M;have o9:wr.cell? ⟨u.tb,9,none⟩=some (.int .i64 (u.op:Int)):=D.rng 9 _ rfl;have uz:=D.row.lt;obtain⟨_,g9⟩:=D.row.row.at (i:=9) (by omega);have N:=g.iU t.r.name;rw[Hf.o] at N;obtain⟨b,o,rfl,hb,W⟩:=dO (by have:=N;rw[<-E.o] at this;exact this) k (by simp;have:=E.o;omega);have c0:wr.cell? ⟨b,o+k,none⟩=some (.pointer (some ⟨u.tb,0,none⟩)):=by rw[W k (xH h) (by simp[x]),<-I];rfl
    have O:=Kz (g.store (t':={u with op:=u.op-1}) M (o:=9) (v:= .int .i64 ((u.op-1:Nat):Int)) (by omega) rfl rfl rfl rfl rfl rfl rfl rfl rfl rfl);rw[<-L] at O;have X:((u.op-1:Nat):Int)= (u.op:Int)-1:=by omega
    rw[X] at O;have i0:(k:Int)<(p:Int):=by omega
    clear W N D L M y V T x U I X g;go_wp2
    go_roundw
    case rel=>exact⟨k+1,by omega,by go_num,O.o⟩
    case measure=>simp[intOf];omega
   ·obtain rfl:k=p:=by omega
    have y:(ws t.r.name).take k=ws t.r.name:=by rw[E.o];exact PE
    rw[y] at g;have P:=Kz g;clear g y;have a7:=Kz (Ic (l:=ws t.r.name) a4.o);have a8:Hid (∀w',K_ wr w'->w'.cell? ⟨bb,5,none⟩=some (.map (some mb))/\w'.cell? ⟨t.tb,0,none⟩=some (.string t.r.name)):=fun w' K=>⟨(P.o.kept K).c5,by obtain⟨u,z,A,h3⟩:=a7.o;have Y:=((P.o.kept K).at z).rng 0 _ rfl;rw[A,h3] at Y;exact Y⟩
    go_upto_region 6 with fail
    refine aR 9 a8.o fun wd q m=>?_
    refine af 0 m ?_;refine af 4 m ?_;refine ae 8 m ?_;obtain⟨w9,b5,_,Z⟩:=(P.o.kept q).del (s:=t.r.name) (by unfold maxLen;omega) 0;have a9:=Kz Z;clear Z;refine ax 9 (fun K c=>?_);go_simp
    refine c.out _ _ (fun J=>Qi rfl J) ?_;clear c K;try simp only[Act.put,upA,upB,upC]
    refine az ?_;go_wp2
    go_end0
    exact⟨rfl,a9.o⟩
end
