import Derived.Test.YtgnkgfjmbmcfcaaGreatDoorProg
import Derived.Test.YtgnkgfjmbmcfcaaGreatDoorKVBfs
import Derived.Deep.Strs
import Derived.ProofKit
set_option maxRecDepth 100000
set_option maxHeartbeats 25600000
namespace Go.Proofs.YtgnkgfjmbmcfcaaGreatDoor
open Go.RowKit Go.Deep Go.Proofs.Tryz
variable {cs : List QA} {fuel : Nat}
section
variable {H : Type} {enc : TypeId × QA -> H} {w : Qy} {base : Nat} {spare : Nat -> Bool} {held : Bool}
theorem in64_of_wf{n:Int}(h:(Lit.int .i64 n).wf=true):In64 n:=by
 simpa[Lit.wf,IntKind.min,IntKind.max,IntKind.signed,IntKind.bits,In64] using h
theorem nZ{a:Addr}{v:QA}(h:w.cell? a=some v):∃b o,a= ⟨b,o,none⟩/\b<w.heap.size:=by
 obtain⟨b,o,s⟩:=a;have e:s=none:=World.cell?_spot h;subst e;exact⟨b,o,rfl,World.block_lt_of_cell? _ _ h⟩
theorem Tryz.tH :prog.cellsOf 9=1:=by kernel_rfl
theorem Tryz.Bh :prog.cellsOf 287=2:=by kernel_rfl
theorem Tryz.Bg :prog.cellsOf 242=8:=by kernel_rfl
theorem Tryz.qi :prog.cellsOf 3=1:=by kernel_rfl
theorem Tryz.Be :prog.cellsOf 4=1:=by kernel_rfl
theorem Tryz.JH :prog.cellsOf 25=1:=by kernel_rfl
theorem Tryz.GJ :prog.cellsOf 240=1:=by kernel_rfl
theorem Tryz.GI :prog.cellsOf 80=1:=by kernel_rfl
theorem CL{x:DataW H×List MemPlace}(h:DataW.trod enc prog w base spare held fuel 25 cs=some x):
  ∃a l cap,cs=[.slice a l.length cap]/\Strs w a l/\l.length<=maxLen/\l.length<=cap/\∀s∈l,s.size<=maxLen:=by
 rcases open_strs underlying25 underlying9 Tryz.tH h with⟨rfl,_⟩|⟨a,len,cap,m,f,rfl,_,n,p,g,_,e⟩
 ·exact⟨none,[],0,rfl,fun i c=>aB c,OW _,OW _,fun s d=>by cases d⟩
 ·have q:len<=m:=by rw[g];split <;> omega
  refine⟨some a,(List.range len).map f,cap,by simp,fun i c=>?_,by simp;omega,by simp;omega,fun s d=>?_⟩
  ·have j:i<len:=by simpa using c
   obtain⟨b,o,rfl,k⟩:=nZ (by have:=(e 0 (by omega)).1;simpa[Addr.add] using this);refine⟨b,o,rfl,k, ?_⟩;have:=(e i (by omega)).1;rw[PQ] at this;rw[this];simp[List.getD,j]
  ·simp only[Pv,List.mem_range] at d;obtain⟨i,c,rfl⟩:=d;exact (e i (by omega)).2
theorem Od{l:List QA}(h:l.length=2):∃a b,l=[a,b]:=by
 match l,h with
 | [a,b],_=>exact⟨a,b,rfl⟩
theorem Ox{l:List QA}(h:l.length=8):∃a b c d e f g i,l=[a,b,c,d,e,f,g,i]:=by
 match l,h with
 | [a,b,c,d,e,f,g,i],_=>exact⟨a,b,c,d,e,f,g,i,rfl⟩
theorem Lj{x:DataW H×List MemPlace}(m:DataW.trod enc prog w base spare held fuel 287 cs=some x):
  ∃c:aT,cs=c.cells/\c.text.size<=maxLen/\In64 c.goto:=by
 obtain⟨a,n,_,_,d,e,f⟩:=DataW.trod_struct underlying287 m;rw[Tryz.Bh] at d;obtain⟨g,h,rfl⟩:=Od d
 ·skip
  have i:DataW.trod enc prog w base spare held n 9 (([g,h].drop 0).take (prog.cellsOf 9))=a[0]? :=f 0 _ rfl;rw[Tryz.tH,OZ (by rw[e];decide)] at i;have j:DataW.trod enc prog w base spare held n 3 (([g,h].drop 1).take (prog.cellsOf 3))=a[1]? :=f 1 _ rfl;rw[Tryz.qi,OZ (by rw[e];decide)] at j;obtain⟨s,k,_,p⟩:=DataW.trod_string underlying9 i;obtain⟨q,l,_,r⟩:=DataW.trod_int underlying3 j;simp only[List.drop_zero,List.take_succ_cons,List.take_zero,List.drop_succ_cons,List.cons.injEq,and_true] at k l;subst k l;exact⟨⟨s,q⟩,rfl,p,in64_of_wf r⟩
theorem IX{x:DataW H×List MemPlace}(q:DataW.trod enc prog w base spare held fuel 240 cs=some x):
  ∃a l cap,cs=[.slice a l.length cap]/\dw w a l/\l.length<=maxLen/\∀c∈l,c.text.size<=maxLen/\In64 c.goto:=by
 rcases open_slice underlying240 q with⟨rfl,_⟩|⟨a,len,cap,m,n,D,N,rfl,_,O,P,r,_,s⟩
 ·exact⟨none,[],0,rfl,fun i d=>aB d,OW _,fun Q t=>by cases t⟩
 ·have R:len<=m:=by rw[r];split <;> omega
  obtain⟨C,f⟩:=@choose_lt aT ⟨aT.zero⟩ m (fun i c=>(∃e,w.cells? base (a.add (i*2)) 2=some e/\e=c.cells)/\c.text.size<=maxLen/\In64 c.goto) (fun i d=>by
   obtain⟨e,k,v⟩:=s i d;rw[Tryz.Bh] at k;obtain⟨c,g,y,z⟩:=Lj v;exact⟨c,⟨e,k,g⟩,y,z⟩)
  refine⟨some a,(List.range len).map C,cap,by simp,fun i d=>?_,by simp;omega,fun c p=>?_⟩
  ·have A:i<len:=by simpa using d
   obtain⟨⟨S,B,E⟩,_⟩:=f 0 (by omega);obtain⟨_,_,F⟩:=World.cells?_some B;obtain⟨b,o,rfl,G⟩:=nZ (by have:=F 0 (by decide);rw[E] at this;simpa[Addr.add,aT.cells] using this);refine⟨b,o,rfl,G,fun j T h=>?_⟩;obtain⟨⟨e,I,J⟩,_⟩:=f i (by omega);obtain⟨_,K,L⟩:=World.cells?_some I;have g:((List.range len).map C).getD i aT.zero=C i:=by simp[List.getD,A]
   rw[g,<-J] at h;have M:j<2:=by rw[<-K];exact (O_.1 h).1
   have:=L j M;rw[PQ,PQ,h] at this;exact this
  ·simp only[Pv,List.mem_range] at p;obtain⟨i,d,rfl⟩:=p;exact (f i (by omega)).2
theorem Ky{x:DataW H×List MemPlace}(J:DataW.trod enc prog w base spare held fuel 242 cs=some x):
  ∃s:Xq,uB w cs s/\s.Fits:=by
 obtain⟨a,n,_,_,l,b,c⟩:=DataW.trod_struct underlying242 J;rw[Tryz.Bg] at l;obtain⟨d,e,f,g,h,i,j,k,rfl⟩:=Ox l
 ·skip
  have m:DataW.trod enc prog w base spare held n 25 (([d,e,f,g,h,i,j,k].drop 0).take (prog.cellsOf 25))=a[0]? :=c 0 _ rfl;rw[Tryz.JH,OZ (by rw[b];decide)] at m;have p:DataW.trod enc prog w base spare held n 3 (([d,e,f,g,h,i,j,k].drop 1).take (prog.cellsOf 3))=a[1]? :=c 1 _ rfl;rw[Tryz.qi,OZ (by rw[b];decide)] at p;have q:DataW.trod enc prog w base spare held n 240 (([d,e,f,g,h,i,j,k].drop 2).take (prog.cellsOf 240))=a[2]? :=c 2 _ rfl;rw[Tryz.GJ,OZ (by rw[b];decide)] at q;have r:DataW.trod enc prog w base spare held n 3 (([d,e,f,g,h,i,j,k].drop 3).take (prog.cellsOf 3))=a[3]? :=c 3 _ rfl;rw[Tryz.qi,OZ (by rw[b];decide)] at r;have t:DataW.trod enc prog w base spare held n 3 (([d,e,f,g,h,i,j,k].drop 4).take (prog.cellsOf 3))=a[4]? :=c 4 _ rfl;rw[Tryz.qi,OZ (by rw[b];decide)] at t;have v:DataW.trod enc prog w base spare held n 4 (([d,e,f,g,h,i,j,k].drop 5).take (prog.cellsOf 4))=a[5]? :=c 5 _ rfl;rw[Tryz.Be,OZ (by rw[b];decide)] at v;have y:DataW.trod enc prog w base spare held n 4 (([d,e,f,g,h,i,j,k].drop 6).take (prog.cellsOf 4))=a[6]? :=c 6 _ rfl;rw[Tryz.Be,OZ (by rw[b];decide)] at y;have z:DataW.trod enc prog w base spare held n 9 (([d,e,f,g,h,i,j,k].drop 7).take (prog.cellsOf 9))=a[7]? :=c 7 _ rfl;rw[Tryz.tH,OZ (by rw[b];decide)] at z;obtain⟨K,L,M,A,N,O,P,Q⟩:=CL m;obtain⟨R,B,_,S⟩:=DataW.trod_int underlying3 p;obtain⟨T,cases,U,C,V,W,X⟩:=IX q;obtain⟨Y,D,_,Z⟩:=DataW.trod_int underlying3 r;obtain⟨a0,E,_,w4⟩:=DataW.trod_int underlying3 t;obtain⟨a1,F,_⟩:=DataW.trod_bool underlying4 v;obtain⟨a2,G,_⟩:=DataW.trod_bool underlying4 y;obtain⟨a3,I,_,w7⟩:=DataW.trod_string underlying9 z;simp only[List.drop_zero,List.take_succ_cons,List.take_zero,List.drop_succ_cons,List.cons.injEq,and_true] at A B C D E F G I;subst A B C D E F G I;exact⟨⟨L,R,cases,Y,a0,a1,a2,a3⟩,⟨K,M,T,U,rfl,N,V,P⟩,⟨O,Q,in64_of_wf S,W,X,in64_of_wf Z,in64_of_wf w4,w7⟩⟩
theorem JD{x:DataW H×List MemPlace}(p:DataW.trod enc prog w base spare held fuel 80 cs=some x):
  ∃a l cap,cs=[.slice a l.length cap]/\Steps w a l/\l.length<=maxLen/\∀s∈l,s.Fits:=by
 rcases open_slice underlying80 p with⟨rfl,_⟩|⟨a,len,cap,m,M,D,N,rfl,_,O,P,q,_,r⟩
 ·exact⟨none,[],0,rfl,fun i c=>aB c,OW _,fun s t=>by cases t⟩
 ·have Q:len<=m:=by rw[q];split <;> omega
  obtain⟨C,f⟩:=@choose_lt Xq ⟨Xq.zero⟩ m (fun i e=>(∃d,w.cells? base (a.add (i*8)) 8=some d/\uB w d e)/\e.Fits) (fun i c=>by
   obtain⟨d,h,v⟩:=r i c;rw[Tryz.Bg] at h;obtain⟨e,g,y⟩:=Ky v;exact⟨e,⟨d,h,g⟩,y⟩)
  refine⟨some a,(List.range len).map C,cap,by simp,fun i c=>?_,by simp;omega,fun e j=>?_⟩
  ·have z:i<len:=by simpa using c
   obtain⟨⟨A,B,R⟩,_⟩:=f 0 (by omega);obtain⟨_,S,E⟩:=World.cells?_some B;obtain⟨b,o,rfl,F⟩:=nZ (a:=a) (v:=A[0]'(by omega)) (by have:=E 0 (by decide);rw[OZ (by omega)] at this;simpa[Addr.add] using this);obtain⟨⟨d,G,I⟩,_⟩:=f i (by omega);obtain⟨_,J,K⟩:=World.cells?_some G;have g:((List.range len).map C).getD i Xq.zero=C i:=by simp[List.getD,z]
   refine⟨b,o,d,rfl,F,fun k T n=>?_,by rw[g];exact I⟩;have L:k<8:=by rw[<-J];exact (O_.1 n).1
   have:=K k L;rw[PQ,PQ,n] at this;exact this
  ·simp only[Pv,List.mem_range] at j;obtain⟨i,c,rfl⟩:=j;exact (f i (by omega)).2
end
