import Derived.Test.YtgnkgfjmbmcfcaaGreatDoorProg
import Derived.Test.YtgnkgfjmbmcfcaaGreatDoorKVBfs
import Derived.Deep.Strs
import Derived.Deep.Slices
import Derived.ProofKit
import Derived.KernelRfl
set_option maxRecDepth 100000
set_option maxHeartbeats 25600000
namespace Go.Proofs.YtgnkgfjmbmcfcaaGreatDoor
open Go.RowKit Go.Deep
section
variable {H : Type} {enc : TypeId × Value -> H} {w : World} {base : Nat} {spare : Nat -> Bool} {held : Bool}
theorem in64_of_wf {n:Int} (h: (Lit.int .i64 n).wf=true):In64 n:=by
 simpa [Lit.wf,IntKind.min,IntKind.max,IntKind.signed,IntKind.bits,In64] using h
theorem plain_addr {a:Addr} {v:Value} (h:w.cell? a=some v): ∃b o,a= ⟨b,o,none⟩∧b < w.heap.size:=by
 obtain ⟨b,o,s⟩:=a
 have hs:s=none:=World.cell?_spot h
 subst hs
 exact ⟨b,o,rfl,World.block_lt_of_cell? _ _ h⟩
theorem Tryz.cellsStr :Tryz.prog.cellsOf 9=1:=by kernel_rfl
theorem Tryz.cellsCase :Tryz.prog.cellsOf 287=2:=by kernel_rfl
theorem Tryz.cellsStep :Tryz.prog.cellsOf 242=8:=by kernel_rfl
theorem Tryz.cellsInt :Tryz.prog.cellsOf 3=1:=by kernel_rfl
theorem Tryz.cellsBool :Tryz.prog.cellsOf 4=1:=by kernel_rfl
theorem Tryz.cellsStrs :Tryz.prog.cellsOf 25=1:=by kernel_rfl
theorem Tryz.cellsCases :Tryz.prog.cellsOf 240=1:=by kernel_rfl
theorem Tryz.cellsSteps :Tryz.prog.cellsOf 80=1:=by kernel_rfl
theorem readStrs {fuel:Nat} {cs:List Value} {x:DataW H×List MemPlace} (h:DataW.trod enc Tryz.prog w base spare held fuel 25 cs=some x):
  ∃a l cap,cs=[.slice a l.length cap]∧Strs w a l∧l.length<=maxLen∧l.length<=cap∧∀s∈l,s.size<=maxLen:=by
 rcases open_strs Tryz.underlying25 Tryz.underlying9 Tryz.cellsStr h with ⟨rfl,_⟩ | ⟨a,len,cap,m,Sx,rfl,_,hl,hm,hmm,_,hx⟩
 ·exact ⟨none,[],0,rfl,fun i hi=> absurd hi (Nat.not_lt_zero _),Nat.zero_le _,Nat.zero_le _,fun s hs=> by cases hs⟩
 ·have hlm:len<=m:=by rw [hmm];split <;> omega
  refine ⟨some a,(List.range len).map Sx,cap,by simp,fun i hi=> ?_,by simp;omega,by simp;omega,fun s hs=> ?_⟩
  ·have hi':i < len:=by simpa using hi
   obtain ⟨b,o,rfl,hb⟩:=plain_addr (by have:= (hx 0 (by omega)).1;simpa [Addr.add] using this)
   refine ⟨b,o,rfl,hb, ?_⟩
   have:= (hx i (by omega)).1
   rw [Addr.add_mid] at this
   rw [this]
   simp [List.getD,hi']
  ·simp only [List.mem_map,List.mem_range] at hs
   obtain ⟨i,hi,rfl⟩:=hs
   exact (hx i (by omega)).2
theorem list2 {l:List Value} (h:l.length=2): ∃a b,l=[a,b]:=by
 match l,h with
 | [a,b],_=> exact ⟨a,b,rfl⟩
theorem list8 {l:List Value} (h:l.length=8): ∃a b c d e f g i,l=[a,b,c,d,e,f,g,i]:=by
 match l,h with
 | [a,b,c,d,e,f,g,i],_=> exact ⟨a,b,c,d,e,f,g,i,rfl⟩
theorem readCase {fuel:Nat} {cs:List Value} {x:DataW H×List MemPlace} (h:DataW.trod enc Tryz.prog w base spare held fuel 287 cs=some x):
  ∃c:CaseD,cs=c.cells∧c.text.size<=maxLen∧In64 c.goto:=by
 obtain ⟨xs,n,_,_,hlen,hxl,hf⟩:=DataW.trod_struct Tryz.underlying287 h
 rw [Tryz.cellsCase] at hlen
 obtain ⟨v0,v1,rfl⟩:=list2 hlen
 ·skip
  have f0:DataW.trod enc Tryz.prog w base spare held n 9 (([v0,v1].drop 0).take (Tryz.prog.cellsOf 9))=xs[0]? :=hf 0 _ rfl
  rw [Tryz.cellsStr,List.getElem?_eq_getElem (by rw [hxl];decide)] at f0
  have f1:DataW.trod enc Tryz.prog w base spare held n 3 (([v0,v1].drop 1).take (Tryz.prog.cellsOf 3))=xs[1]? :=hf 1 _ rfl
  rw [Tryz.cellsInt,List.getElem?_eq_getElem (by rw [hxl];decide)] at f1
  obtain ⟨s,e0,_,hs⟩:=DataW.trod_string Tryz.underlying9 f0
  obtain ⟨g,e1,_,hg⟩:=DataW.trod_int Tryz.underlying3 f1
  simp only [List.drop_zero,List.take_succ_cons,List.take_zero,List.drop_succ_cons,List.cons.injEq,and_true] at e0 e1
  subst e0 e1
  exact ⟨⟨s,g⟩,rfl,hs,in64_of_wf hg⟩
theorem readCases {fuel:Nat} {cs:List Value} {x:DataW H×List MemPlace} (h:DataW.trod enc Tryz.prog w base spare held fuel 240 cs=some x):
  ∃a l cap,cs=[.slice a l.length cap]∧Cases w a l∧l.length<=maxLen∧∀c∈l,c.text.size<=maxLen∧In64 c.goto:=by
 rcases open_slice Tryz.underlying240 h with ⟨rfl,_⟩ | ⟨a,len,cap,m,n,D,Pl,rfl,_,hl,hm,hmm,_,hx⟩
 ·exact ⟨none,[],0,rfl,fun i hi=> absurd hi (Nat.not_lt_zero _),Nat.zero_le _,fun s hs=> by cases hs⟩
 ·have hlm:len<=m:=by rw [hmm];split <;> omega
  obtain ⟨C,hC⟩:= @choose_lt CaseD ⟨CaseD.zero⟩ m (fun i c=> (∃cs',w.cells? base (a.add (i * 2)) 2=some cs'∧cs'=c.cells)∧c.text.size<=maxLen∧In64 c.goto) (fun i hi=> by
   obtain ⟨cs',h1,h2⟩:=hx i hi
   rw [Tryz.cellsCase] at h1
   obtain ⟨c,e,g1,g2⟩:=readCase h2
   exact ⟨c,⟨cs',h1,e⟩,g1,g2⟩)
  refine ⟨some a,(List.range len).map C,cap,by simp,fun i hi=> ?_,by simp;omega,fun c hc=> ?_⟩
  ·have hi':i < len:=by simpa using hi
   obtain ⟨⟨cs0,z1,z2⟩,_⟩:=hC 0 (by omega)
   obtain ⟨_,_,z3⟩:=World.cells?_some z1
   obtain ⟨b,o,rfl,hb⟩:=plain_addr (by have:=z3 0 (by decide);rw [z2] at this;simpa [Addr.add,CaseD.cells] using this)
   refine ⟨b,o,rfl,hb,fun j v hv=> ?_⟩
   obtain ⟨⟨cs',y1,y2⟩,_⟩:=hC i (by omega)
   obtain ⟨_,y4,y3⟩:=World.cells?_some y1
   have e: ((List.range len).map C).getD i CaseD.zero=C i:=by simp [List.getD,hi']
   rw [e,<-y2] at hv
   have hj:j < 2:=by rw [<-y4];exact (List.getElem?_eq_some_iff.1 hv).1
   have:=y3 j hj
   rw [Addr.add_mid,Addr.add_mid,hv] at this
   exact this
  ·simp only [List.mem_map,List.mem_range] at hc
   obtain ⟨i,hi,rfl⟩:=hc
   exact (hC i (by omega)).2
theorem readStep {fuel:Nat} {cs:List Value} {x:DataW H×List MemPlace} (h:DataW.trod enc Tryz.prog w base spare held fuel 242 cs=some x):
  ∃s:Xj,StepIs w cs s∧s.Fits:=by
 obtain ⟨xs,n,_,_,hlen,hxl,hf⟩:=DataW.trod_struct Tryz.underlying242 h
 rw [Tryz.cellsStep] at hlen
 obtain ⟨v0,v1,v2,v3,v4,v5,v6,v7,rfl⟩:=list8 hlen
 ·skip
  have f0:DataW.trod enc Tryz.prog w base spare held n 25 (([v0,v1,v2,v3,v4,v5,v6,v7].drop 0).take (Tryz.prog.cellsOf 25))=xs[0]? :=hf 0 _ rfl
  rw [Tryz.cellsStrs,List.getElem?_eq_getElem (by rw [hxl];decide)] at f0
  have f1:DataW.trod enc Tryz.prog w base spare held n 3 (([v0,v1,v2,v3,v4,v5,v6,v7].drop 1).take (Tryz.prog.cellsOf 3))=xs[1]? :=hf 1 _ rfl
  rw [Tryz.cellsInt,List.getElem?_eq_getElem (by rw [hxl];decide)] at f1
  have f2:DataW.trod enc Tryz.prog w base spare held n 240 (([v0,v1,v2,v3,v4,v5,v6,v7].drop 2).take (Tryz.prog.cellsOf 240))=xs[2]? :=hf 2 _ rfl
  rw [Tryz.cellsCases,List.getElem?_eq_getElem (by rw [hxl];decide)] at f2
  have f3:DataW.trod enc Tryz.prog w base spare held n 3 (([v0,v1,v2,v3,v4,v5,v6,v7].drop 3).take (Tryz.prog.cellsOf 3))=xs[3]? :=hf 3 _ rfl
  rw [Tryz.cellsInt,List.getElem?_eq_getElem (by rw [hxl];decide)] at f3
  have f4:DataW.trod enc Tryz.prog w base spare held n 3 (([v0,v1,v2,v3,v4,v5,v6,v7].drop 4).take (Tryz.prog.cellsOf 3))=xs[4]? :=hf 4 _ rfl
  rw [Tryz.cellsInt,List.getElem?_eq_getElem (by rw [hxl];decide)] at f4
  have f5:DataW.trod enc Tryz.prog w base spare held n 4 (([v0,v1,v2,v3,v4,v5,v6,v7].drop 5).take (Tryz.prog.cellsOf 4))=xs[5]? :=hf 5 _ rfl
  rw [Tryz.cellsBool,List.getElem?_eq_getElem (by rw [hxl];decide)] at f5
  have f6:DataW.trod enc Tryz.prog w base spare held n 4 (([v0,v1,v2,v3,v4,v5,v6,v7].drop 6).take (Tryz.prog.cellsOf 4))=xs[6]? :=hf 6 _ rfl
  rw [Tryz.cellsBool,List.getElem?_eq_getElem (by rw [hxl];decide)] at f6
  have f7:DataW.trod enc Tryz.prog w base spare held n 9 (([v0,v1,v2,v3,v4,v5,v6,v7].drop 7).take (Tryz.prog.cellsOf 9))=xs[7]? :=hf 7 _ rfl
  rw [Tryz.cellsStr,List.getElem?_eq_getElem (by rw [hxl];decide)] at f7
  obtain ⟨aa,asks,ca,e0,g1,g2,g3,g4⟩:=readStrs f0
  obtain ⟨on,e1,_,w1⟩:=DataW.trod_int Tryz.underlying3 f1
  obtain ⟨ac,cases,cc,e2,g5,g6,g7⟩:=readCases f2
  obtain ⟨els,e3,_,w3⟩:=DataW.trod_int Tryz.underlying3 f3
  obtain ⟨fall,e4,_,w4⟩:=DataW.trod_int Tryz.underlying3 f4
  obtain ⟨fin,e5,_⟩:=DataW.trod_bool Tryz.underlying4 f5
  obtain ⟨bad,e6,_⟩:=DataW.trod_bool Tryz.underlying4 f6
  obtain ⟨give,e7,_,w7⟩:=DataW.trod_string Tryz.underlying9 f7
  simp only [List.drop_zero,List.take_succ_cons,List.take_zero,List.drop_succ_cons,List.cons.injEq,and_true] at e0 e1 e2 e3 e4 e5 e6 e7
  subst e0 e1 e2 e3 e4 e5 e6 e7
  exact ⟨⟨asks,on,cases,els,fall,fin,bad,give⟩,⟨aa,ca,ac,cc,rfl,g1,g5,g3⟩,⟨g2,g4,in64_of_wf w1,g6,g7,in64_of_wf w3,in64_of_wf w4,w7⟩⟩
theorem readSteps {fuel:Nat} {cs:List Value} {x:DataW H×List MemPlace} (h:DataW.trod enc Tryz.prog w base spare held fuel 80 cs=some x):
  ∃a l cap,cs=[.slice a l.length cap]∧Steps w a l∧l.length<=maxLen∧∀s∈l,s.Fits:=by
 rcases open_slice Tryz.underlying80 h with ⟨rfl,_⟩ | ⟨a,len,cap,m,n,D,Pl,rfl,_,hl,hm,hmm,_,hx⟩
 ·exact ⟨none,[],0,rfl,fun i hi=> absurd hi (Nat.not_lt_zero _),Nat.zero_le _,fun s hs=> by cases hs⟩
 ·have hlm:len<=m:=by rw [hmm];split <;> omega
  obtain ⟨C,hC⟩:= @choose_lt Xj ⟨Xj.zero⟩ m (fun i c=> (∃cs',w.cells? base (a.add (i * 8)) 8=some cs'∧StepIs w cs' c)∧c.Fits) (fun i hi=> by
   obtain ⟨cs',h1,h2⟩:=hx i hi
   rw [Tryz.cellsStep] at h1
   obtain ⟨c,e,g1⟩:=readStep h2
   exact ⟨c,⟨cs',h1,e⟩,g1⟩)
  refine ⟨some a,(List.range len).map C,cap,by simp,fun i hi=> ?_,by simp;omega,fun c hc=> ?_⟩
  ·have hi':i < len:=by simpa using hi
   obtain ⟨⟨cs0,z1,z2⟩,_⟩:=hC 0 (by omega)
   obtain ⟨_,z4,z3⟩:=World.cells?_some z1
   obtain ⟨b,o,rfl,hb⟩:=plain_addr (a:=a) (v:=cs0[0]'(by omega)) (by have:=z3 0 (by decide);rw [List.getElem?_eq_getElem (by omega)] at this;simpa [Addr.add] using this)
   obtain ⟨⟨cs',y1,y2⟩,_⟩:=hC i (by omega)
   obtain ⟨_,y4,y3⟩:=World.cells?_some y1
   have e: ((List.range len).map C).getD i Xj.zero=C i:=by simp [List.getD,hi']
   refine ⟨b,o,cs',rfl,hb,fun j v hv=> ?_,by rw [e];exact y2⟩
   have hj:j < 8:=by rw [<-y4];exact (List.getElem?_eq_some_iff.1 hv).1
   have:=y3 j hj
   rw [Addr.add_mid,Addr.add_mid,hv] at this
   exact this
  ·simp only [List.mem_map,List.mem_range] at hc
   obtain ⟨i,hi,rfl⟩:=hc
   exact (hC i (by omega)).2
end
