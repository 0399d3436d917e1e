import Derived.Test.YtgnkgfjmbmcfcaaGreatDoorKRead
import Derived.Test.YtgnkgfjmbmcfcaaGreatDoorKOPack
set_option maxRecDepth 100000
set_option maxHeartbeats 25600000
namespace Go.Proofs.YtgnkgfjmbmcfcaaGreatDoor
open Go.RowKit Go.Deep Go.Proofs.Tryz
section
variable {H : Type} {enc : TypeId × QA -> H} {w : Qy} {base : Nat} {spare : Nat -> Bool} {held : Bool}
theorem Tryz.Bf :prog.cellsOf 84=3:=by kernel_rfl
theorem Tryz.LX :prog.cellsOf 82=2:=by kernel_rfl
theorem Ow{l:List QA}(h:l.length=3):∃a b c,l=[a,b,c]:=by
 match l,h with
 | [a,b,c],_=>exact⟨a,b,c,rfl⟩
theorem Ll{fuel:Nat}{cs:List QA}{x:DataW H×List MemPlace}(y:DataW.trod enc prog w base spare held fuel 84 cs=some x):
  ∃d:Qz,tQ w cs d/\d.Fits:=by
 obtain⟨c,n,_,_,e,f,g⟩:=DataW.trod_struct underlying84 y;rw[Tryz.Bf] at e;obtain⟨h,a,b,rfl⟩:=Ow e;have i:DataW.trod enc prog w base spare held n 9 (([h,a,b].drop 0).take (prog.cellsOf 9))=c[0]? :=g 0 _ rfl;rw[Tryz.tH,OZ (by rw[f];decide)] at i;have j:DataW.trod enc prog w base spare held n 82 (([h,a,b].drop 1).take (prog.cellsOf 82))=c[1]? :=g 1 _ rfl;rw[Tryz.LX,OZ (by rw[f];decide)] at j;obtain⟨name,k,_,z⟩:=DataW.trod_string underlying9 i;obtain⟨l,m,_,_,_,p,q⟩:=DataW.trod_struct underlying82 j;have r:DataW.trod enc prog w base spare held m 3 (([a,b].drop 0).take (prog.cellsOf 3))=l[0]? :=q 0 _ rfl;rw[Tryz.qi,OZ (by rw[p];decide)] at r;have s:DataW.trod enc prog w base spare held m 80 (([a,b].drop 1).take (prog.cellsOf 80))=l[1]? :=q 1 _ rfl;rw[Tryz.GI,OZ (by rw[p];decide)] at s;obtain⟨cost,t,_,A⟩:=DataW.trod_int underlying3 r;obtain⟨B,C,D,v,E,F,G⟩:=JD s;simp only[List.drop_zero,List.take_succ_cons,List.take_zero,List.drop_succ_cons,List.cons.injEq,and_true] at k t v;subst k t v;exact⟨⟨name,cost,C⟩,⟨B,D,rfl,E⟩,⟨z,in64_of_wf A,F,G⟩⟩
theorem Iy{fuel:Nat}{cs:List QA}{x:DataW H×List MemPlace}(p:DataW.trod enc prog w base spare held fuel 22 cs=some x):
  ∃a l cap,cs=[.slice a l.length cap]/\bJ w a l/\l.length<=maxLen/\∀s∈l,s.Fits:=by
 rcases open_slice underlying22 p with⟨rfl,_⟩|⟨a,len,cap,m,M,D,N,rfl,_,O,P,q,_,r⟩
 ·exact⟨none,[],0,rfl,fun i c=>aB c,OW _,fun s t=>by cases t⟩
 ·have Q:len<=m:=by rw[q];split <;> omega
  obtain⟨C,f⟩:=@choose_lt Qz ⟨Qz.zero⟩ m (fun i e=>(∃d,w.cells? base (a.add (i*3)) 3=some d/\tQ w d e)/\e.Fits) (fun i c=>by
   obtain⟨d,h,v⟩:=r i c;rw[Tryz.Bf] at h;obtain⟨e,g,y⟩:=Ll v;exact⟨e,⟨d,h,g⟩,y⟩)
  refine⟨some a,(List.range len).map C,cap,by simp,fun i c=>?_,by simp;omega,fun e j=>?_⟩
  ·have z:i<len:=by simpa using c
   obtain⟨⟨A,B,R⟩,_⟩:=f 0 (by omega);obtain⟨_,S,E⟩:=World.cells?_some B;obtain⟨b,o,rfl,F⟩:=nZ (a:=a) (v:=A[0]'(by omega)) (by have:=E 0 (by decide);rw[OZ (by omega)] at this;simpa[Addr.add] using this);obtain⟨⟨d,G,I⟩,_⟩:=f i (by omega);obtain⟨_,J,K⟩:=World.cells?_some G;have g:((List.range len).map C).getD i Qz.zero=C i:=by simp[List.getD,z]
   refine⟨b,o,d,rfl,F,fun k T n=>?_,by rw[g];exact I⟩;have L:k<3:=by rw[<-J];exact (O_.1 n).1
   have:=K k L;rw[PQ,PQ,n] at this;exact this
  ·simp only[Pv,List.mem_range] at j;obtain⟨i,c,rfl⟩:=j;exact (f i (by omega)).2
end
