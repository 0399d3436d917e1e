import Derived.Shelf.SlIter.Nil
import Derived.Shelf.SortM.Plain
import Derived.Shelf.SortM.SortNone
import Derived.Test.YtgnkgfjmbmcfcaaGreatDoorProg
set_option maxRecDepth 100000
set_option maxHeartbeats 25600000
namespace Go.Proofs
open Go.Shelf
def Tryz.keys162_ren :Go.Shelf.Ren:=⟨fun | 7=>162 | 10=>184 | n=>n,fun | 23=>157 | 26=>9 | 3=>25 | 28=>232 | 0=>0 | 27=>231 | 33=>85 | 4=>4 | n=>n,fun | n=>n⟩
theorem Tryz.Iu :Go.Proofs.SlLaysZ.n7 Tryz.prog Tryz.keys162_ren:={
 mixed:=by kernel_rfl
 f7:=⟨Tryz.f162.name,by decide,Tryz.func162.trans (congrArg some (by kernel_rfl))⟩
 f10:=⟨Tryz.f184.name,by decide,Tryz.func184.trans (congrArg some (by kernel_rfl))⟩
 t0:=Tryz.underlying0
 a0:=Tryz.isAgg0
 z0:=Tryz.sizeOf0
 v0:=Tryz.zeroValue0
 t4:=Tryz.underlying4
 a4:=Tryz.isAgg4
 z4:=Tryz.sizeOf4
 v4:=Tryz.zeroValue4
 t23:=Tryz.underlying157
 a23:=Tryz.isAgg157
 z23:=Tryz.sizeOf157
 v23:=Tryz.zeroValue157
 t26:=Tryz.underlying9
 a26:=Tryz.isAgg9
 z26:=Tryz.sizeOf9
 v26:=Tryz.zeroValue9
 t27:=Tryz.underlying231
 a27:=Tryz.isAgg231
 z27:=Tryz.sizeOf231
 v27:=Tryz.zeroValue231
 t28:=Tryz.underlying232
 a28:=Tryz.isAgg232
 z28:=Tryz.sizeOf232
 v28:=Tryz.zeroValue232
 t33:=Tryz.underlying85
 a33:=Tryz.isAgg85
 z33:=Tryz.sizeOf85
 v33:=Tryz.zeroValue85}
def Tryz.sorted161_ren :Go.Shelf.Ren:=⟨fun | 6=>161 | 8=>182 | 9=>183 | 11=>203 | 13=>205 | 12=>204 | 23=>226 | 24=>227 | 14=>218 | 15=>219 | 16=>220 | 17=>221 | 18=>222 | 19=>223 | 20=>186 | 21=>224 | 22=>225 | 25=>238 | 26=>239 | 27=>240 | 28=>241 | 29=>242 | 30=>174 | 31=>252 | n=>n,fun | 26=>9 | 28=>232 | 24=>25 | 0=>0 | 3=>3 | 37=>252 | 48=>307 | 50=>267 | 4=>4 | 40=>301 | 39=>300 | 45=>184 | 5=>5 | 9=>9 | 51=>315 | 55=>319 | 57=>332 | 58=>333 | 33=>85 | n=>n,fun | n=>n⟩
theorem Tryz.JO :Go.Proofs.SlLaysZ.n6 Tryz.prog Tryz.sorted161_ren:={
 mixed:=by kernel_rfl
 f6:=⟨Tryz.f161.name,by decide,Tryz.func161.trans (congrArg some (by kernel_rfl))⟩
 f8:=⟨Tryz.f182.name,by decide,Tryz.func182.trans (congrArg some (by kernel_rfl))⟩
 f11:=⟨Tryz.f203.name,by decide,Tryz.func203.trans (congrArg some (by kernel_rfl))⟩
 t0:=Tryz.underlying0
 a0:=Tryz.isAgg0
 z0:=Tryz.sizeOf0
 v0:=Tryz.zeroValue0
 t24:=Tryz.underlying25
 a24:=Tryz.isAgg25
 z24:=Tryz.sizeOf25
 v24:=Tryz.zeroValue25
 t26:=Tryz.underlying9
 a26:=Tryz.isAgg9
 z26:=Tryz.sizeOf9
 v26:=Tryz.zeroValue9
 t28:=Tryz.underlying232
 a28:=Tryz.isAgg232
 z28:=Tryz.sizeOf232
 v28:=Tryz.zeroValue232
 i26:=by kernel_rfl}
def Tryz.sort183_ren :Go.Shelf.Ren:=⟨fun | 6=>183 | 8=>205 | 9=>204 | 19=>226 | 20=>227 | 21=>218 | 22=>219 | 23=>220 | 24=>221 | 25=>222 | 26=>223 | 27=>186 | 28=>224 | 29=>225 | 36=>238 | 31=>239 | 32=>240 | 37=>241 | 38=>242 | 39=>174 | 41=>252 | n=>n,fun | 27=>25 | 29=>9 | 3=>3 | 32=>252 | 26=>25 | 0=>0 | 44=>307 | 46=>267 | 4=>4 | 36=>301 | 35=>300 | 41=>184 | 5=>5 | 9=>9 | 53=>315 | 57=>319 | 63=>332 | 64=>333 | n=>n,fun | n=>n⟩
theorem Tryz.Iq :Go.Proofs.SlLaysM.n6 Tryz.prog Tryz.sort183_ren:={
 mixed:=by kernel_rfl
 f6:=⟨Tryz.f183.name,by decide,Tryz.func183.trans (congrArg some (by kernel_rfl))⟩
 f8:=Tryz.func205.trans (congrArg some (by kernel_rfl))
 f9:=⟨Tryz.f204.name,by decide,Tryz.func204.trans (congrArg some (by kernel_rfl))⟩
 f19:=Tryz.func226.trans (congrArg some (by kernel_rfl))
 f20:=Tryz.func227.trans (congrArg some (by kernel_rfl))
 f21:=⟨Tryz.f218.name,by decide,Tryz.func218.trans (congrArg some (by kernel_rfl))⟩
 f22:=⟨Tryz.f219.name,by decide,Tryz.func219.trans (congrArg some (by kernel_rfl))⟩
 f23:=⟨Tryz.f220.name,by decide,Tryz.func220.trans (congrArg some (by kernel_rfl))⟩
 f24:=⟨Tryz.f221.name,by decide,Tryz.func221.trans (congrArg some (by kernel_rfl))⟩
 f25:=⟨Tryz.f222.name,by decide,Tryz.func222.trans (congrArg some (by kernel_rfl))⟩
 f26:=⟨Tryz.f223.name,by decide,Tryz.func223.trans (congrArg some (by kernel_rfl))⟩
 f27:=⟨Tryz.f186.name,by decide,Tryz.func186.trans (congrArg some (by kernel_rfl))⟩
 f28:=⟨Tryz.f224.name,by decide,Tryz.func224.trans (congrArg some (by kernel_rfl))⟩
 f29:=⟨Tryz.f225.name,by decide,Tryz.func225.trans (congrArg some (by kernel_rfl))⟩
 f31:=Tryz.func239.trans (congrArg some (by kernel_rfl))
 f32:=Tryz.func240.trans (congrArg some (by kernel_rfl))
 f36:=⟨Tryz.f238.name,by decide,Tryz.func238.trans (congrArg some (by kernel_rfl))⟩
 f37:=⟨Tryz.f241.name,by decide,Tryz.func241.trans (congrArg some (by kernel_rfl))⟩
 f38:=⟨Tryz.f242.name,by decide,Tryz.func242.trans (congrArg some (by kernel_rfl))⟩
 f39:=⟨Tryz.f174.name,by decide,Tryz.func174.trans (congrArg some (by kernel_rfl))⟩
 f41:=⟨Tryz.f252.name,by decide,Tryz.func252.trans (congrArg some (by kernel_rfl))⟩
 t0:=Tryz.underlying0
 a0:=Tryz.isAgg0
 z0:=Tryz.sizeOf0
 v0:=Tryz.zeroValue0
 t3:=Tryz.underlying3
 a3:=Tryz.isAgg3
 z3:=Tryz.sizeOf3
 v3:=Tryz.zeroValue3
 t4:=Tryz.underlying4
 a4:=Tryz.isAgg4
 z4:=Tryz.sizeOf4
 v4:=Tryz.zeroValue4
 t5:=Tryz.underlying5
 a5:=Tryz.isAgg5
 z5:=Tryz.sizeOf5
 v5:=Tryz.zeroValue5
 t9:=Tryz.underlying9
 a9:=Tryz.isAgg9
 z9:=Tryz.sizeOf9
 v9:=Tryz.zeroValue9
 t26:=Tryz.underlying25
 a26:=Tryz.isAgg25
 z26:=Tryz.sizeOf25
 v26:=Tryz.zeroValue25
 t27:=Tryz.underlying25
 a27:=Tryz.isAgg25
 z27:=Tryz.sizeOf25
 v27:=Tryz.zeroValue25
 t29:=Tryz.underlying9
 a29:=Tryz.isAgg9
 z29:=Tryz.sizeOf9
 v29:=Tryz.zeroValue9
 t32:=Tryz.underlying252
 a32:=Tryz.isAgg252
 z32:=Tryz.sizeOf252
 v32:=Tryz.zeroValue252
 t35:=Tryz.underlying300
 a35:=Tryz.isAgg300
 z35:=Tryz.sizeOf300
 v35:=Tryz.zeroValue300
 t36:=Tryz.underlying301
 a36:=Tryz.isAgg301
 z36:=Tryz.sizeOf301
 v36:=Tryz.zeroValue301
 t41:=Tryz.underlying184
 a41:=Tryz.isAgg184
 z41:=Tryz.sizeOf184
 v41:=Tryz.zeroValue184
 t44:=Tryz.underlying307
 a44:=Tryz.isAgg307
 z44:=Tryz.sizeOf307
 v44:=Tryz.zeroValue307
 t46:=Tryz.underlying267
 a46:=Tryz.isAgg267
 z46:=Tryz.sizeOf267
 v46:=Tryz.zeroValue267
 t53:=Tryz.underlying315
 a53:=Tryz.isAgg315
 z53:=Tryz.sizeOf315
 v53:=Tryz.zeroValue315
 t57:=Tryz.underlying319
 a57:=Tryz.isAgg319
 z57:=Tryz.sizeOf319
 v57:=Tryz.zeroValue319
 t63:=Tryz.underlying332
 a63:=Tryz.isAgg332
 z63:=Tryz.sizeOf332
 v63:=Tryz.zeroValue332
 t64:=Tryz.underlying333
 a64:=Tryz.isAgg333
 z64:=Tryz.sizeOf333
 v64:=Tryz.zeroValue333}
end Go.Proofs
namespace Go.Proofs
open Go.RowKit Go.Maps Go.Sort Go.Shelf
theorem Tryz.LY(m:Nat):AnyZ.SortsIn Tryz.prog Tryz.sorted161_ren Fence.wide m:=
 ⟨fun c d a e W f g h=>callsIn_wide.2 (AnyM.slices_Sort_string Tryz.Iq c d a e W f g h),
  fun p a W=>callsIn_wide.2 (AnyM.slices_Sort_string_none Tryz.Iq p a W)⟩
theorem Tryz.Ae(mb:Option Nat)(W:World):CallsIn Fence.wide 5 Tryz.prog 162 #[.map mb] W fun e w'=>e= .returned (.func (.func 184) #[] #[.pointer (some ⟨W.heap.size,0,none⟩)])/\w'=W.alloc (.cells #[.map mb] 157):=
 AnyZ.keys_in Tryz.Iu Fence.wide 5 trivial rfl mb W
theorem Tryz.lV{H:Type}(b f:Nat)(a:DataW H)(R:Value->Option (DataW H×List MemPlace))(w:World)(g:w.ownsMap Tryz.prog 9 R b f a)(h:Maps.size a<=maxLen)(i:Maps.size a*16<=140737488355328):
  CallsIn Fence.wide 5 Tryz.prog 161 #[.func (.func 184) #[] #[.pointer (some ⟨w.heap.size,0,none⟩)]] (w.alloc (.cells #[.map (some b)] 157)) fun e w'=>∃(v:Value) (c:List (List UInt8)),e= .returned v/\c.Perm (strKeys a)/\
   w'.ownsRow (w.alloc (.cells #[.map (some b)] 157)).heap.size 9 1 v c.length ((c.mergeSort (fun x y=>decide (x<=y))).map encStr)/\(v= .slice none 0 0↔c=[])/\Below (w.alloc (.cells #[.map (some b)] 157)).heap.size (w.alloc (.cells #[.map (some b)] 157)) w':=by
 have j:=g.lt;have k:SeqGives Fence.wide 2 Tryz.prog 184 #[.pointer (some ⟨w.heap.size,0,none⟩)] encStr (fun c=>c.Perm (strKeys a)) (Maps.size a) (w.alloc (.cells #[.map (some b)] 157)):=
  AnyZ.keys_gives (ρ :=Tryz.keys162_ren) {Tryz.Iu with} Fence.wide _ trivial rfl (by omega) w.heap.size b f a _ (by simp) (by simp) (by
   obtain⟨l,m,n,p,q,r⟩:=g;exact⟨l,m,(Below.heap_alloc _ _ b j).trans n,p,q,r⟩)
 exact AnyZ.sorted_in Tryz.JO Fence.wide 5 trivial trivial trivial trivial rfl (by omega) (Tryz.LY _) (enters_of Tryz.func183 (by kernel_rfl) rfl) 184 #[.pointer (some ⟨w.heap.size,0,none⟩)] trivial (enters_of Tryz.func184 (by kernel_rfl) rfl) _ _ h i _ k
end Go.Proofs
