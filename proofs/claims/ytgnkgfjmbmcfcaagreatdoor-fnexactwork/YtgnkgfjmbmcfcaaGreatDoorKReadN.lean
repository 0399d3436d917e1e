import Derived.Test.YtgnkgfjmbmcfcaaGreatDoorKRead
import Derived.Test.YtgnkgfjmbmcfcaaGreatDoorKOMark4
set_option maxRecDepth 100000
set_option maxHeartbeats 25600000
namespace Go.Proofs.YtgnkgfjmbmcfcaaGreatDoor
open Go.RowKit Go.Deep
section
variable {H : Type} {enc : TypeId × Value -> H} {w : World} {base : Nat} {spare : Nat -> Bool} {held : Bool}
theorem Tryz.cellsNode :Tryz.prog.cellsOf 84=3:=by kernel_rfl
theorem Tryz.cellsAct :Tryz.prog.cellsOf 82=2:=by kernel_rfl
theorem list3 {l:List Value} (h:l.length=3): ∃a b c,l=[a,b,c]:=by
 match l,h with
 | [a,b,c],_=> exact ⟨a,b,c,rfl⟩
theorem readNode {fuel:Nat} {cs:List Value} {x:DataW H×List MemPlace} (h:DataW.trod enc Tryz.prog w base spare held fuel 84 cs=some x):
  ∃d:Qq,NodeIs w cs d∧d.Fits:=by
 obtain ⟨xs,n,_,_,hlen,hxl,hf⟩:=DataW.trod_struct Tryz.underlying84 h
 rw [Tryz.cellsNode] at hlen
 obtain ⟨v0,v1,v2,rfl⟩:=list3 hlen
 have f0:DataW.trod enc Tryz.prog w base spare held n 9 (([v0,v1,v2].drop 0).take (Tryz.prog.cellsOf 9))=xs[0]? :=hf 0 _ rfl
 rw [Tryz.cellsStr,List.getElem?_eq_getElem (by rw [hxl];decide)] at f0
 have f1:DataW.trod enc Tryz.prog w base spare held n 82 (([v0,v1,v2].drop 1).take (Tryz.prog.cellsOf 82))=xs[1]? :=hf 1 _ rfl
 rw [Tryz.cellsAct,List.getElem?_eq_getElem (by rw [hxl];decide)] at f1
 obtain ⟨name,e0,_,hn⟩:=DataW.trod_string Tryz.underlying9 f0
 obtain ⟨ys,m,_,_,_,hyl,hg⟩:=DataW.trod_struct Tryz.underlying82 f1
 have g0:DataW.trod enc Tryz.prog w base spare held m 3 (([v1,v2].drop 0).take (Tryz.prog.cellsOf 3))=ys[0]? :=hg 0 _ rfl
 rw [Tryz.cellsInt,List.getElem?_eq_getElem (by rw [hyl];decide)] at g0
 have g1:DataW.trod enc Tryz.prog w base spare held m 80 (([v1,v2].drop 1).take (Tryz.prog.cellsOf 80))=ys[1]? :=hg 1 _ rfl
 rw [Tryz.cellsSteps,List.getElem?_eq_getElem (by rw [hyl];decide)] at g1
 obtain ⟨cost,e1,_,hc⟩:=DataW.trod_int Tryz.underlying3 g0
 obtain ⟨a,l,cap,e2,hS,hl,hs⟩:=readSteps g1
 simp only [List.drop_zero,List.take_succ_cons,List.take_zero,List.drop_succ_cons,List.cons.injEq,and_true] at e0 e1 e2
 subst e0 e1 e2
 exact ⟨⟨name,cost,l⟩,⟨a,cap,rfl,hS⟩,⟨hn,in64_of_wf hc,hl,hs⟩⟩
theorem readNodes {fuel:Nat} {cs:List Value} {x:DataW H×List MemPlace} (h:DataW.trod enc Tryz.prog w base spare held fuel 22 cs=some x):
  ∃a l cap,cs=[.slice a l.length cap]∧Nodes w a l∧l.length<=maxLen∧∀s∈l,s.Fits:=by
 rcases open_slice Tryz.underlying22 h with ⟨rfl,_⟩ | ⟨a,len,cap,m,n,D,Pl,rfl,_,hl,hm,hmm,_,hx⟩
 ·exact ⟨none,[],0,rfl,fun i hi=> absurd hi (Nat.not_lt_zero _),Nat.zero_le _,fun s hs=> by cases hs⟩
 ·have hlm:len<=m:=by rw [hmm];split <;> omega
  obtain ⟨C,hC⟩:= @choose_lt Qq ⟨Qq.zero⟩ m (fun i c=> (∃cs',w.cells? base (a.add (i * 3)) 3=some cs'∧NodeIs w cs' c)∧c.Fits) (fun i hi=> by
   obtain ⟨cs',h1,h2⟩:=hx i hi
   rw [Tryz.cellsNode] at h1
   obtain ⟨c,e,g1⟩:=readNode h2
   exact ⟨c,⟨cs',h1,e⟩,g1⟩)
  refine ⟨some a,(List.range len).map C,cap,by simp,fun i hi=> ?_,by simp;omega,fun c hc=> ?_⟩
  ·have hi':i < len:=by simpa using hi
   obtain ⟨⟨cs0,z1,z2⟩,_⟩:=hC 0 (by omega)
   obtain ⟨_,z4,z3⟩:=World.cells?_some z1
   obtain ⟨b,o,rfl,hb⟩:=plain_addr (a:=a) (v:=cs0[0]'(by omega)) (by have:=z3 0 (by decide);rw [List.getElem?_eq_getElem (by omega)] at this;simpa [Addr.add] using this)
   obtain ⟨⟨cs',y1,y2⟩,_⟩:=hC i (by omega)
   obtain ⟨_,y4,y3⟩:=World.cells?_some y1
   have e: ((List.range len).map C).getD i Qq.zero=C i:=by simp [List.getD,hi']
   refine ⟨b,o,cs',rfl,hb,fun j v hv=> ?_,by rw [e];exact y2⟩
   have hj:j < 3:=by rw [<-y4];exact (List.getElem?_eq_some_iff.1 hv).1
   have:=y3 j hj
   rw [Addr.add_mid,Addr.add_mid,hv] at this
   exact this
  ·simp only [List.mem_map,List.mem_range] at hc
   obtain ⟨i,hi,rfl⟩:=hc
   exact (hC i (by omega)).2
end
