import Derived.Shelf.SlIter.Nil
import Derived.Shelf.SortM.Plain
import Derived.Shelf.SortM.SortNone
import Derived.Test.YtbmhchdegdjfkaaGreatDoorProg
set_option maxRecDepth 100000
set_option maxHeartbeats 25600000
namespace Go.Proofs
open Go.Shelf
def Tryz.keys70_ren :Go.Shelf.Ren:=⟨fun | 7=>70 | 10=>112 | n=>n,fun | 23=>58 | 26=>9 | 3=>26 | 28=>63 | 0=>0 | 27=>62 | 33=>118 | 4=>4 | n=>n,fun | n=>n⟩
theorem Tryz.GY :Go.Proofs.SlLaysZ.n7 Tryz.prog Tryz.keys70_ren:={
 mixed:=by kernel_rfl
 f7:=⟨Tryz.f70.name,by decide,Tryz.func70.trans (congrArg some (by kernel_rfl))⟩
 f10:=⟨Tryz.f112.name,by decide,Tryz.func112.trans (congrArg some (by kernel_rfl))⟩
 t0:=Tryz.underlying0
 a0:=Tryz.isAgg0
 z0:=Tryz.sizeOf0
 v0:=Tryz.zeroValue0
 t4:=Tryz.underlying4
 a4:=Tryz.isAgg4
 z4:=Tryz.sizeOf4
 v4:=Tryz.zeroValue4
 t23:=Tryz.underlying58
 a23:=Tryz.isAgg58
 z23:=Tryz.sizeOf58
 v23:=Tryz.zeroValue58
 t26:=Tryz.underlying9
 a26:=Tryz.isAgg9
 z26:=Tryz.sizeOf9
 v26:=Tryz.zeroValue9
 t27:=Tryz.underlying62
 a27:=Tryz.isAgg62
 z27:=Tryz.sizeOf62
 v27:=Tryz.zeroValue62
 t28:=Tryz.underlying63
 a28:=Tryz.isAgg63
 z28:=Tryz.sizeOf63
 v28:=Tryz.zeroValue63
 t33:=Tryz.underlying118
 a33:=Tryz.isAgg118
 z33:=Tryz.sizeOf118
 v33:=Tryz.zeroValue118}
def Tryz.sorted31_ren :Go.Shelf.Ren:=⟨fun | 6=>31 | 8=>66 | 9=>67 | 11=>109 | 13=>111 | 12=>110 | 23=>154 | 24=>155 | 14=>146 | 15=>147 | 16=>148 | 17=>149 | 18=>150 | 19=>151 | 20=>113 | 21=>152 | 22=>153 | 25=>177 | 26=>178 | 27=>179 | 28=>180 | 29=>181 | 30=>156 | 31=>191 | n=>n,fun | 26=>9 | 28=>63 | 24=>26 | 0=>0 | 3=>3 | 37=>161 | 48=>201 | 50=>203 | 4=>4 | 40=>195 | 39=>194 | 45=>120 | 5=>5 | 9=>9 | 51=>223 | 55=>227 | 57=>246 | 58=>247 | 33=>118 | n=>n,fun | n=>n⟩
theorem Tryz.GV :Go.Proofs.SlLaysZ.n6 Tryz.prog Tryz.sorted31_ren:={
 mixed:=by kernel_rfl
 f6:=⟨Tryz.f31.name,by decide,Tryz.func31.trans (congrArg some (by kernel_rfl))⟩
 f8:=⟨Tryz.f66.name,by decide,Tryz.func66.trans (congrArg some (by kernel_rfl))⟩
 f11:=⟨Tryz.f109.name,by decide,Tryz.func109.trans (congrArg some (by kernel_rfl))⟩
 t0:=Tryz.underlying0
 a0:=Tryz.isAgg0
 z0:=Tryz.sizeOf0
 v0:=Tryz.zeroValue0
 t24:=Tryz.underlying26
 a24:=Tryz.isAgg26
 z24:=Tryz.sizeOf26
 v24:=Tryz.zeroValue26
 t26:=Tryz.underlying9
 a26:=Tryz.isAgg9
 z26:=Tryz.sizeOf9
 v26:=Tryz.zeroValue9
 t28:=Tryz.underlying63
 a28:=Tryz.isAgg63
 z28:=Tryz.sizeOf63
 v28:=Tryz.zeroValue63
 i26:=by kernel_rfl}
def Tryz.sort67_ren :Go.Shelf.Ren:=⟨fun | 6=>67 | 8=>111 | 9=>110 | 19=>154 | 20=>155 | 21=>146 | 22=>147 | 23=>148 | 24=>149 | 25=>150 | 26=>151 | 27=>113 | 28=>152 | 29=>153 | 36=>177 | 31=>178 | 32=>179 | 37=>180 | 38=>181 | 39=>156 | 41=>191 | n=>n,fun | 27=>26 | 29=>9 | 3=>3 | 32=>161 | 26=>26 | 0=>0 | 44=>201 | 46=>203 | 4=>4 | 36=>195 | 35=>194 | 41=>120 | 5=>5 | 9=>9 | 53=>223 | 57=>227 | 63=>246 | 64=>247 | n=>n,fun | n=>n⟩
theorem Tryz.GZ :Go.Proofs.SlLaysM.n6 Tryz.prog Tryz.sort67_ren:={
 mixed:=by kernel_rfl
 f6:=⟨Tryz.f67.name,by decide,Tryz.func67.trans (congrArg some (by kernel_rfl))⟩
 f8:=Tryz.func111.trans (congrArg some (by kernel_rfl))
 f9:=⟨Tryz.f110.name,by decide,Tryz.func110.trans (congrArg some (by kernel_rfl))⟩
 f19:=Tryz.func154.trans (congrArg some (by kernel_rfl))
 f20:=Tryz.func155.trans (congrArg some (by kernel_rfl))
 f21:=⟨Tryz.f146.name,by decide,Tryz.func146.trans (congrArg some (by kernel_rfl))⟩
 f22:=⟨Tryz.f147.name,by decide,Tryz.func147.trans (congrArg some (by kernel_rfl))⟩
 f23:=⟨Tryz.f148.name,by decide,Tryz.func148.trans (congrArg some (by kernel_rfl))⟩
 f24:=⟨Tryz.f149.name,by decide,Tryz.func149.trans (congrArg some (by kernel_rfl))⟩
 f25:=⟨Tryz.f150.name,by decide,Tryz.func150.trans (congrArg some (by kernel_rfl))⟩
 f26:=⟨Tryz.f151.name,by decide,Tryz.func151.trans (congrArg some (by kernel_rfl))⟩
 f27:=⟨Tryz.f113.name,by decide,Tryz.func113.trans (congrArg some (by kernel_rfl))⟩
 f28:=⟨Tryz.f152.name,by decide,Tryz.func152.trans (congrArg some (by kernel_rfl))⟩
 f29:=⟨Tryz.f153.name,by decide,Tryz.func153.trans (congrArg some (by kernel_rfl))⟩
 f31:=Tryz.func178.trans (congrArg some (by kernel_rfl))
 f32:=Tryz.func179.trans (congrArg some (by kernel_rfl))
 f36:=⟨Tryz.f177.name,by decide,Tryz.func177.trans (congrArg some (by kernel_rfl))⟩
 f37:=⟨Tryz.f180.name,by decide,Tryz.func180.trans (congrArg some (by kernel_rfl))⟩
 f38:=⟨Tryz.f181.name,by decide,Tryz.func181.trans (congrArg some (by kernel_rfl))⟩
 f39:=⟨Tryz.f156.name,by decide,Tryz.func156.trans (congrArg some (by kernel_rfl))⟩
 f41:=⟨Tryz.f191.name,by decide,Tryz.func191.trans (congrArg some (by kernel_rfl))⟩
 t0:=Tryz.underlying0
 a0:=Tryz.isAgg0
 z0:=Tryz.sizeOf0
 v0:=Tryz.zeroValue0
 t3:=Tryz.underlying3
 a3:=Tryz.isAgg3
 z3:=Tryz.sizeOf3
 v3:=Tryz.zeroValue3
 t4:=Tryz.underlying4
 a4:=Tryz.isAgg4
 z4:=Tryz.sizeOf4
 v4:=Tryz.zeroValue4
 t5:=Tryz.underlying5
 a5:=Tryz.isAgg5
 z5:=Tryz.sizeOf5
 v5:=Tryz.zeroValue5
 t9:=Tryz.underlying9
 a9:=Tryz.isAgg9
 z9:=Tryz.sizeOf9
 v9:=Tryz.zeroValue9
 t26:=Tryz.underlying26
 a26:=Tryz.isAgg26
 z26:=Tryz.sizeOf26
 v26:=Tryz.zeroValue26
 t27:=Tryz.underlying26
 a27:=Tryz.isAgg26
 z27:=Tryz.sizeOf26
 v27:=Tryz.zeroValue26
 t29:=Tryz.underlying9
 a29:=Tryz.isAgg9
 z29:=Tryz.sizeOf9
 v29:=Tryz.zeroValue9
 t32:=Tryz.underlying161
 a32:=Tryz.isAgg161
 z32:=Tryz.sizeOf161
 v32:=Tryz.zeroValue161
 t35:=Tryz.underlying194
 a35:=Tryz.isAgg194
 z35:=Tryz.sizeOf194
 v35:=Tryz.zeroValue194
 t36:=Tryz.underlying195
 a36:=Tryz.isAgg195
 z36:=Tryz.sizeOf195
 v36:=Tryz.zeroValue195
 t41:=Tryz.underlying120
 a41:=Tryz.isAgg120
 z41:=Tryz.sizeOf120
 v41:=Tryz.zeroValue120
 t44:=Tryz.underlying201
 a44:=Tryz.isAgg201
 z44:=Tryz.sizeOf201
 v44:=Tryz.zeroValue201
 t46:=Tryz.underlying203
 a46:=Tryz.isAgg203
 z46:=Tryz.sizeOf203
 v46:=Tryz.zeroValue203
 t53:=Tryz.underlying223
 a53:=Tryz.isAgg223
 z53:=Tryz.sizeOf223
 v53:=Tryz.zeroValue223
 t57:=Tryz.underlying227
 a57:=Tryz.isAgg227
 z57:=Tryz.sizeOf227
 v57:=Tryz.zeroValue227
 t63:=Tryz.underlying246
 a63:=Tryz.isAgg246
 z63:=Tryz.sizeOf246
 v63:=Tryz.zeroValue246
 t64:=Tryz.underlying247
 a64:=Tryz.isAgg247
 z64:=Tryz.sizeOf247
 v64:=Tryz.zeroValue247}
end Go.Proofs
namespace Go.Proofs
open Go.RowKit Go.Maps Go.Sort Go.Shelf
theorem Tryz.Iu(m:Nat):AnyZ.SortsIn Tryz.prog Tryz.sorted31_ren Fence.wide m:=
 ⟨fun blk c a d W e f h=>callsIn_wide.2 (AnyM.slices_Sort_string Tryz.GZ blk c a d W e f h),
  fun p a W=>callsIn_wide.2 (AnyM.slices_Sort_string_none Tryz.GZ p a W)⟩
theorem Tryz.zG(a:Option Nat)(W:World):CallsIn Fence.wide 5 Tryz.prog 70 #[.map a] W fun e w'=>e= .returned (.func (.func 112) #[] #[.pointer (some ⟨W.heap.size,0,none⟩)])/\w'=W.alloc (.cells #[.map a] 58):=
 AnyZ.keys_in Tryz.GY Fence.wide 5 trivial rfl a W
theorem Tryz.lL{H:Type}(b f:Nat)(a:DataW H)(R:Value->Option (DataW H×List MemPlace))(w:World)(h:w.ownsMap Tryz.prog 9 R b f a)(j:Maps.size a<=maxLen)(k:Maps.size a*16<=140737488355328):
  CallsIn Fence.wide 5 Tryz.prog 31 #[.func (.func 112) #[] #[.pointer (some ⟨w.heap.size,0,none⟩)]] (w.alloc (.cells #[.map (some b)] 58)) fun e w'=>∃(v:Value) (c:List (List UInt8)),e= .returned v/\c.Perm (strKeys a)/\
   w'.ownsRow (w.alloc (.cells #[.map (some b)] 58)).heap.size 9 1 v c.length ((c.mergeSort (fun x y=>decide (x<=y))).map encStr)/\(v= .slice none 0 0↔c=[])/\Below (w.alloc (.cells #[.map (some b)] 58)).heap.size (w.alloc (.cells #[.map (some b)] 58)) w':=by
 have l:=h.lt;have m:SeqGives Fence.wide 2 Tryz.prog 112 #[.pointer (some ⟨w.heap.size,0,none⟩)] encStr (fun c=>c.Perm (strKeys a)) (Maps.size a) (w.alloc (.cells #[.map (some b)] 58)):=
  AnyZ.keys_gives (ρ :=Tryz.keys70_ren) {Tryz.GY with} Fence.wide _ trivial rfl (by omega) w.heap.size b f a _ (by simp) (by simp) (by
   obtain⟨n,p,q,r,s,t⟩:=h;exact⟨n,p,(Below.heap_alloc _ _ b l).trans q,r,s,t⟩)
 exact AnyZ.sorted_in Tryz.GV Fence.wide 5 trivial trivial trivial trivial rfl (by omega) (Tryz.Iu _) (enters_of Tryz.func67 (by kernel_rfl) rfl) 112 #[.pointer (some ⟨w.heap.size,0,none⟩)] trivial (enters_of Tryz.func112 (by kernel_rfl) rfl) _ _ j k _ m
end Go.Proofs
