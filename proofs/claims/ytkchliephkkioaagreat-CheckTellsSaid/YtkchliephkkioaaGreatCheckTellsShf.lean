/- What the library functions that the program calls give at this dump. -/
import Derived.Shelf.Small.Bits
import Derived.Shelf.Small.Wraps
import Derived.Shelf.Strconv.Itoa0
import Derived.Shelf.Sort.Plain
import Derived.Shelf.Slices.Turned
import Derived.Ground.Names2Prog
import Derived.Shelf.Slices.SearchI
import Derived.Shelf.Slices.In.SortNone
import Derived.Ground.SlbCloneProg
import Derived.Shelf.Bytes.SlClone
import Derived.Test.YtkchliephkkioaaGreatProg
namespace Go.Proofs
open Go.Shelf
def Tryz.lays189_ren:Go.Shelf.Ren:=⟨fun|189=>24|125=>48|257=>47|128=>75|129=>76|294=>66|295=>67|296=>68|297=>69|298=>70|299=>71|216=>72|300=>73|301=>74|328=>88|329=>89|330=>90|331=>91|332=>92|215=>93|343=>102|n=>n,fun|28=>34|3=>3|46=>99|0=>0|51=>128|53=>130|4=>4|183=>120|182=>119|131=>125|5=>5|9=>9|218=>136|222=>140|228=>146|229=>147|n=>n,fun|n=>n⟩
theorem Tryz.lays189:Go.Proofs.Lays.n189 Tryz.prog Tryz.lays189_ren:={
  mixed:=by kernel_rfl
  f125:=Tryz.func48.trans (congrArg some (by kernel_rfl))
  f128:=Tryz.func75.trans (congrArg some (by kernel_rfl))
  f129:=Tryz.func76.trans (congrArg some (by kernel_rfl))
  f189:=Tryz.func24.trans (congrArg some (by kernel_rfl))
  f215:=Tryz.func93.trans (congrArg some (by kernel_rfl))
  f216:=Tryz.func72.trans (congrArg some (by kernel_rfl))
  f257:=Tryz.func47.trans (congrArg some (by kernel_rfl))
  f294:=Tryz.func66.trans (congrArg some (by kernel_rfl))
  f295:=Tryz.func67.trans (congrArg some (by kernel_rfl))
  f296:=Tryz.func68.trans (congrArg some (by kernel_rfl))
  f297:=Tryz.func69.trans (congrArg some (by kernel_rfl))
  f298:=Tryz.func70.trans (congrArg some (by kernel_rfl))
  f299:=Tryz.func71.trans (congrArg some (by kernel_rfl))
  f300:=Tryz.func73.trans (congrArg some (by kernel_rfl))
  f301:=Tryz.func74.trans (congrArg some (by kernel_rfl))
  f328:=Tryz.func88.trans (congrArg some (by kernel_rfl))
  f329:=Tryz.func89.trans (congrArg some (by kernel_rfl))
  f330:=Tryz.func90.trans (congrArg some (by kernel_rfl))
  f331:=Tryz.func91.trans (congrArg some (by kernel_rfl))
  f332:=Tryz.func92.trans (congrArg some (by kernel_rfl))
  f343:=Tryz.func102.trans (congrArg some (by kernel_rfl))
  t0:=Tryz.underlying0
  a0:=Tryz.isAgg0
  z0:=Tryz.sizeOf0
  v0:=Tryz.zeroValue0
  t3:=Tryz.underlying3
  a3:=Tryz.isAgg3
  z3:=Tryz.sizeOf3
  v3:=Tryz.zeroValue3
  t4:=Tryz.underlying4
  a4:=Tryz.isAgg4
  z4:=Tryz.sizeOf4
  v4:=Tryz.zeroValue4
  t5:=Tryz.underlying5
  a5:=Tryz.isAgg5
  z5:=Tryz.sizeOf5
  v5:=Tryz.zeroValue5
  t9:=Tryz.underlying9
  a9:=Tryz.isAgg9
  z9:=Tryz.sizeOf9
  v9:=Tryz.zeroValue9
  t28:=Tryz.underlying34
  a28:=Tryz.isAgg34
  z28:=Tryz.sizeOf34
  v28:=Tryz.zeroValue34
  t46:=Tryz.underlying99
  a46:=Tryz.isAgg99
  z46:=Tryz.sizeOf99
  v46:=Tryz.zeroValue99
  t51:=Tryz.underlying128
  a51:=Tryz.isAgg128
  z51:=Tryz.sizeOf128
  v51:=Tryz.zeroValue128
  t53:=Tryz.underlying130
  a53:=Tryz.isAgg130
  z53:=Tryz.sizeOf130
  v53:=Tryz.zeroValue130
  t131:=Tryz.underlying125
  a131:=Tryz.isAgg125
  z131:=Tryz.sizeOf125
  v131:=Tryz.zeroValue125
  t182:=Tryz.underlying119
  a182:=Tryz.isAgg119
  z182:=Tryz.sizeOf119
  v182:=Tryz.zeroValue119
  t183:=Tryz.underlying120
  a183:=Tryz.isAgg120
  z183:=Tryz.sizeOf120
  v183:=Tryz.zeroValue120
  t218:=Tryz.underlying136
  a218:=Tryz.isAgg136
  z218:=Tryz.sizeOf136
  v218:=Tryz.zeroValue136
  t222:=Tryz.underlying140
  a222:=Tryz.isAgg140
  z222:=Tryz.sizeOf140
  v222:=Tryz.zeroValue140
  t228:=Tryz.underlying146
  a228:=Tryz.isAgg146
  z228:=Tryz.sizeOf146
  v228:=Tryz.zeroValue146
  t229:=Tryz.underlying147
  a229:=Tryz.isAgg147
  z229:=Tryz.sizeOf147
  v229:=Tryz.zeroValue147 }
open Go.Sort Go.RowKit in
theorem Tryz.slices_Sort_int(blk off cap:Nat)(zs:List Int)(w:World)(hH:Holds (Value.int .i64) w blk off zs.toArray)(hblk:blk<w.heap.size)(hsz:zs.length<4611686018427387904) :
    Calls Tryz.prog 24 #[.slice (some ⟨blk,off,none⟩) zs.length cap] w fun e w' =>
      e = .returned (.tuple #[])∧∃n os,w'=grow (putRow (Value.int .i64) (Sort.ahead w n) blk off (zs.mergeSort fun x y=>decide (x≤y)).toArray) os:=Any.slices_Sort_int Tryz.lays189 blk off cap zs w hH hblk hsz
open Go.RowKit Go.Sort in
theorem Tryz.slices_Sort_int_none(p:Option Addr)(cap:Nat)(w:World) :
    Calls Tryz.prog 24 #[.slice p 0 cap] w fun e w'=>e = .returned (.tuple #[])∧w'=w:=Any.slices_Sort_int_none Tryz.lays189 p cap w
end Go.Proofs
