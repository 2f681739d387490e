/- What the library functions that the program calls give at this dump. -/
import Derived.Shelf.Strings.Builder1
import Derived.Shelf.Strings.Builder2
import Derived.Shelf.Strings.OnBuilder
import Derived.Shelf.Small.Bits
import Derived.Shelf.Small.Wraps
import Derived.Shelf.Strconv.Itoa0
import Derived.Shelf.LaysM
import Derived.Shelf.Strconv.Clone
import Derived.Shelf.Strings.Search1
import Derived.Shelf.Strings.Search2
import Derived.Shelf.Strings.Search3
import Derived.Shelf.Strings.Count
import Derived.Shelf.Strings.Shaped
import Derived.Shelf.Sort.Plain
import Derived.Shelf.Strings.Prefix
import Derived.Shelf.Strings.Split
import Derived.Shelf.Strings.SplitShaped
import Derived.Shelf.Unicode.DecodeSlow
import Derived.Shelf.Slices.Turned
import Derived.Shelf.Slices.Equal
import Derived.Shelf.Slices.CompactS
import Derived.Shelf.Slices.Cells
import Derived.Shelf.Slices.In.SortNone
import Derived.Ground.SlbCloneProg
import Derived.Shelf.Bytes.SlClone
import Derived.Test.YtpnahagiojelbaaGreatDoorProg
namespace Go.Proofs
open Go.Shelf
def Tryz.lays156_ren:Go.Shelf.Ren:=⟨fun|156=>46|165=>91|166=>92|169=>93|240=>143|241=>144|276=>182|277=>183|n=>n,fun|31=>40|9=>9|3=>3|4=>4|0=>0|20=>20|72=>145|76=>149|70=>143|37=>30|75=>148|127=>209|164=>256|5=>5|80=>151|n=>n,fun|n=>n⟩
theorem Tryz.lays156:Go.Proofs.Lays.n156 Tryz.prog Tryz.lays156_ren:={
  mixed:=by kernel_rfl
  f156:=Tryz.func46.trans (congrArg some (by kernel_rfl))
  f165:=Tryz.func91.trans (congrArg some (by kernel_rfl))
  f166:=Tryz.func92.trans (congrArg some (by kernel_rfl))
  f169:=Tryz.func93.trans (congrArg some (by kernel_rfl))
  f240:=Tryz.func143.trans (congrArg some (by kernel_rfl))
  f241:=Tryz.func144.trans (congrArg some (by kernel_rfl))
  f276:=Tryz.func182.trans (congrArg some (by kernel_rfl))
  f277:=Tryz.func183.trans (congrArg some (by kernel_rfl))
  t0:=Tryz.underlying0
  a0:=Tryz.isAgg0
  z0:=Tryz.sizeOf0
  v0:=Tryz.zeroValue0
  t3:=Tryz.underlying3
  a3:=Tryz.isAgg3
  z3:=Tryz.sizeOf3
  v3:=Tryz.zeroValue3
  t4:=Tryz.underlying4
  a4:=Tryz.isAgg4
  z4:=Tryz.sizeOf4
  v4:=Tryz.zeroValue4
  t9:=Tryz.underlying9
  a9:=Tryz.isAgg9
  z9:=Tryz.sizeOf9
  v9:=Tryz.zeroValue9
  t20:=Tryz.underlying20
  a20:=Tryz.isAgg20
  z20:=Tryz.sizeOf20
  v20:=Tryz.zeroValue20
  t31:=Tryz.underlying40
  a31:=Tryz.isAgg40
  z31:=Tryz.sizeOf40
  v31:=Tryz.zeroValue40
  t37:=Tryz.underlying30
  a37:=Tryz.isAgg30
  z37:=Tryz.sizeOf30
  v37:=Tryz.zeroValue30
  t70:=Tryz.underlying143
  a70:=Tryz.isAgg143
  z70:=Tryz.sizeOf143
  v70:=Tryz.zeroValue143
  t72:=Tryz.underlying145
  a72:=Tryz.isAgg145
  z72:=Tryz.sizeOf145
  v72:=Tryz.zeroValue145
  t75:=Tryz.underlying148
  a75:=Tryz.isAgg148
  z75:=Tryz.sizeOf148
  v75:=Tryz.zeroValue148
  t76:=Tryz.underlying149
  a76:=Tryz.isAgg149
  z76:=Tryz.sizeOf149
  v76:=Tryz.zeroValue149
  t127:=Tryz.underlying209
  a127:=Tryz.isAgg209
  z127:=Tryz.sizeOf209
  v127:=Tryz.zeroValue209
  t164:=Tryz.underlying256
  a164:=Tryz.isAgg256
  z164:=Tryz.sizeOf256
  v164:=Tryz.zeroValue256 }
theorem Tryz.Builder_Extra_156:Builder.Extra Tryz.prog Tryz.lays156_ren:={
  sizeBuilder:=by kernel_rfl
  liesBuilder:=by kernel_rfl
  t5:=Tryz.underlying5
  a5:=Tryz.isAgg5
  z5:=Tryz.sizeOf5
  v5:=Tryz.zeroValue5
  infoByte:=by kernel_rfl
  cellsByte:=by kernel_rfl
  sizeByte:=by kernel_rfl
  neB5:=by decide }
open Go.RowKit in
theorem Tryz.strings_Join_none(a:Option Addr)(c:Nat)(sep:ByteArray)(w:World) :
    Calls Tryz.prog 46 #[.slice a 0 c,.string sep] w fun e w'=>e = .returned (.string ⟨#[]⟩)∧w'=w:=Any.strings_Join_none Tryz.lays156 Tryz.Builder_Extra_156 a c sep w
open Go.RowKit in
theorem Tryz.strings_Join(bk o c:Nat)(xs:List ByteArray)(sep:ByteArray)(w:World)(hcells:∀(j:Nat) x,xs[j]? = some x→w.cell? ⟨bk,o+j,none⟩=some (.string x))(hbk:bk<w.heap.size)(hN:xs.length≤140737488355328)(hcap:xs.length≤c)(hlen:(Lib.join (xs.map (·.data.toList)) sep.data.toList).length≤140737488355328) :
    Calls Tryz.prog 46 #[.slice (some ⟨bk,o,none⟩) xs.length c,.string sep] w fun e w'=>e = .returned (.string ⟨(Lib.join (xs.map (·.data.toList)) sep.data.toList).toArray⟩)∧Below w.heap.size w w':=Any.strings_Join Tryz.lays156 Tryz.Builder_Extra_156 bk o c xs sep w hcells hbk hN hcap hlen
def Tryz.lays103_ren:Go.Shelf.Ren:=⟨fun|103=>42|210=>87|206=>139|n=>n,fun|9=>9|4=>4|24=>85|3=>3|n=>n,fun|n=>n⟩
theorem Tryz.lays103:Go.Proofs.Lays.n103 Tryz.prog Tryz.lays103_ren:={
  mixed:=by kernel_rfl
  f103:=Tryz.func42.trans (congrArg some (by kernel_rfl))
  f206:=Tryz.func139.trans (congrArg some (by kernel_rfl))
  f210:=Tryz.func87.trans (congrArg some (by kernel_rfl))
  t3:=Tryz.underlying3
  a3:=Tryz.isAgg3
  z3:=Tryz.sizeOf3
  v3:=Tryz.zeroValue3
  t4:=Tryz.underlying4
  a4:=Tryz.isAgg4
  z4:=Tryz.sizeOf4
  v4:=Tryz.zeroValue4
  t9:=Tryz.underlying9
  a9:=Tryz.isAgg9
  z9:=Tryz.sizeOf9
  v9:=Tryz.zeroValue9
  t24:=Tryz.underlying85
  a24:=Tryz.isAgg85
  z24:=Tryz.sizeOf85
  v24:=Tryz.zeroValue85 }
open Go.RowKit in
theorem Tryz.strings_CutPrefix(s p:ByteArray)(w:World) :
    Calls Tryz.prog 42 #[.string s,.string p] w fun e w'=>e = .returned (.tuple #[.string ⟨(Lib.trimPrefix s.data.toList p.data.toList).toArray⟩,.bool (Lib.hasPrefix s.data.toList p.data.toList)])∧w'=w:=Any.strings_CutPrefix Tryz.lays103 s p w
def Tryz.laysM316_ren:Go.Shelf.Ren:=⟨fun|316=>90|n=>n,fun|9=>9|3=>3|4=>4|37=>30|0=>0|127=>209|5=>5|n=>n,fun|n=>n⟩
theorem Tryz.laysM316:Go.Proofs.LaysM.n316 Tryz.prog Tryz.laysM316_ren:={
  mixed:=by kernel_rfl
  f316:=Tryz.func90.trans (congrArg some (by kernel_rfl))
  t0:=Tryz.underlying0
  a0:=Tryz.isAgg0
  z0:=Tryz.sizeOf0
  v0:=Tryz.zeroValue0
  t3:=Tryz.underlying3
  a3:=Tryz.isAgg3
  z3:=Tryz.sizeOf3
  v3:=Tryz.zeroValue3
  t4:=Tryz.underlying4
  a4:=Tryz.isAgg4
  z4:=Tryz.sizeOf4
  v4:=Tryz.zeroValue4
  t9:=Tryz.underlying9
  a9:=Tryz.isAgg9
  z9:=Tryz.sizeOf9
  v9:=Tryz.zeroValue9
  t37:=Tryz.underlying30
  a37:=Tryz.isAgg30
  z37:=Tryz.sizeOf30
  v37:=Tryz.zeroValue30
  t127:=Tryz.underlying209
  a127:=Tryz.isAgg209
  z127:=Tryz.sizeOf209
  v127:=Tryz.zeroValue209
  t5:=Tryz.underlying5
  a5:=Tryz.isAgg5
  z5:=Tryz.sizeOf5
  v5:=Tryz.zeroValue5
  i0:=by kernel_rfl
  i3:=by kernel_rfl
  i4:=by kernel_rfl
  i5:=by kernel_rfl
  i9:=by kernel_rfl
  i37:=by kernel_rfl
  i127:=by kernel_rfl }
open Go.RowKit in
theorem Tryz.stringslite_Clone(s:ByteArray)(w:World)(hlim:s.size≤281474976710656) :
    Calls Tryz.prog 90 #[.string s] w fun e w'=>e = .returned (.string s)∧Below w.heap.size w w':=Any.stringslite_Clone Tryz.laysM316 s w hlim
def Tryz.lays189_ren:Go.Shelf.Ren:=⟨fun|189=>107|125=>153|257=>152|128=>193|129=>194|294=>184|295=>185|296=>186|297=>187|298=>188|299=>189|216=>190|300=>191|301=>192|328=>215|329=>216|330=>217|331=>218|332=>219|215=>220|343=>237|n=>n,fun|28=>31|3=>3|46=>220|0=>0|51=>267|53=>23|4=>4|183=>261|182=>260|131=>183|5=>5|9=>9|218=>278|222=>282|228=>298|229=>299|n=>n,fun|n=>n⟩
theorem Tryz.lays189:Go.Proofs.Lays.n189 Tryz.prog Tryz.lays189_ren:={
  mixed:=by kernel_rfl
  f125:=Tryz.func153.trans (congrArg some (by kernel_rfl))
  f128:=Tryz.func193.trans (congrArg some (by kernel_rfl))
  f129:=Tryz.func194.trans (congrArg some (by kernel_rfl))
  f189:=Tryz.func107.trans (congrArg some (by kernel_rfl))
  f215:=Tryz.func220.trans (congrArg some (by kernel_rfl))
  f216:=Tryz.func190.trans (congrArg some (by kernel_rfl))
  f257:=Tryz.func152.trans (congrArg some (by kernel_rfl))
  f294:=Tryz.func184.trans (congrArg some (by kernel_rfl))
  f295:=Tryz.func185.trans (congrArg some (by kernel_rfl))
  f296:=Tryz.func186.trans (congrArg some (by kernel_rfl))
  f297:=Tryz.func187.trans (congrArg some (by kernel_rfl))
  f298:=Tryz.func188.trans (congrArg some (by kernel_rfl))
  f299:=Tryz.func189.trans (congrArg some (by kernel_rfl))
  f300:=Tryz.func191.trans (congrArg some (by kernel_rfl))
  f301:=Tryz.func192.trans (congrArg some (by kernel_rfl))
  f328:=Tryz.func215.trans (congrArg some (by kernel_rfl))
  f329:=Tryz.func216.trans (congrArg some (by kernel_rfl))
  f330:=Tryz.func217.trans (congrArg some (by kernel_rfl))
  f331:=Tryz.func218.trans (congrArg some (by kernel_rfl))
  f332:=Tryz.func219.trans (congrArg some (by kernel_rfl))
  f343:=Tryz.func237.trans (congrArg some (by kernel_rfl))
  t0:=Tryz.underlying0
  a0:=Tryz.isAgg0
  z0:=Tryz.sizeOf0
  v0:=Tryz.zeroValue0
  t3:=Tryz.underlying3
  a3:=Tryz.isAgg3
  z3:=Tryz.sizeOf3
  v3:=Tryz.zeroValue3
  t4:=Tryz.underlying4
  a4:=Tryz.isAgg4
  z4:=Tryz.sizeOf4
  v4:=Tryz.zeroValue4
  t5:=Tryz.underlying5
  a5:=Tryz.isAgg5
  z5:=Tryz.sizeOf5
  v5:=Tryz.zeroValue5
  t9:=Tryz.underlying9
  a9:=Tryz.isAgg9
  z9:=Tryz.sizeOf9
  v9:=Tryz.zeroValue9
  t28:=Tryz.underlying31
  a28:=Tryz.isAgg31
  z28:=Tryz.sizeOf31
  v28:=Tryz.zeroValue31
  t46:=Tryz.underlying220
  a46:=Tryz.isAgg220
  z46:=Tryz.sizeOf220
  v46:=Tryz.zeroValue220
  t51:=Tryz.underlying267
  a51:=Tryz.isAgg267
  z51:=Tryz.sizeOf267
  v51:=Tryz.zeroValue267
  t53:=Tryz.underlying23
  a53:=Tryz.isAgg23
  z53:=Tryz.sizeOf23
  v53:=Tryz.zeroValue23
  t131:=Tryz.underlying183
  a131:=Tryz.isAgg183
  z131:=Tryz.sizeOf183
  v131:=Tryz.zeroValue183
  t182:=Tryz.underlying260
  a182:=Tryz.isAgg260
  z182:=Tryz.sizeOf260
  v182:=Tryz.zeroValue260
  t183:=Tryz.underlying261
  a183:=Tryz.isAgg261
  z183:=Tryz.sizeOf261
  v183:=Tryz.zeroValue261
  t218:=Tryz.underlying278
  a218:=Tryz.isAgg278
  z218:=Tryz.sizeOf278
  v218:=Tryz.zeroValue278
  t222:=Tryz.underlying282
  a222:=Tryz.isAgg282
  z222:=Tryz.sizeOf282
  v222:=Tryz.zeroValue282
  t228:=Tryz.underlying298
  a228:=Tryz.isAgg298
  z228:=Tryz.sizeOf298
  v228:=Tryz.zeroValue298
  t229:=Tryz.underlying299
  a229:=Tryz.isAgg299
  z229:=Tryz.sizeOf299
  v229:=Tryz.zeroValue299 }
open Go.Sort Go.RowKit in
theorem Tryz.slices_Sort_int(blk off cap:Nat)(zs:List Int)(w:World)(hH:Holds (Value.int .i64) w blk off zs.toArray)(hblk:blk<w.heap.size)(hsz:zs.length<4611686018427387904) :
    Calls Tryz.prog 107 #[.slice (some ⟨blk,off,none⟩) zs.length cap] w fun e w' =>
      e = .returned (.tuple #[])∧∃n os,w'=grow (putRow (Value.int .i64) (Sort.ahead w n) blk off (zs.mergeSort fun x y=>decide (x≤y)).toArray) os:=Any.slices_Sort_int Tryz.lays189 blk off cap zs w hH hblk hsz
def Tryz.lays190_ren:Go.Shelf.Ren:=⟨fun|190=>175|125=>153|258=>209|128=>193|129=>194|302=>226|303=>227|304=>228|305=>229|306=>230|307=>231|308=>232|309=>233|310=>234|333=>238|329=>216|330=>217|334=>239|335=>240|336=>241|344=>242|n=>n,fun|31=>40|9=>9|3=>3|46=>220|0=>0|51=>267|53=>23|4=>4|183=>261|182=>260|131=>183|5=>5|218=>278|222=>282|228=>298|229=>299|n=>n,fun|n=>n⟩
theorem Tryz.lays190:Go.Proofs.Lays.n190 Tryz.prog Tryz.lays190_ren:={
  mixed:=by kernel_rfl
  f125:=Tryz.func153.trans (congrArg some (by kernel_rfl))
  f128:=Tryz.func193.trans (congrArg some (by kernel_rfl))
  f129:=Tryz.func194.trans (congrArg some (by kernel_rfl))
  f190:=Tryz.func175.trans (congrArg some (by kernel_rfl))
  f258:=Tryz.func209.trans (congrArg some (by kernel_rfl))
  f302:=Tryz.func226.trans (congrArg some (by kernel_rfl))
  f303:=Tryz.func227.trans (congrArg some (by kernel_rfl))
  f304:=Tryz.func228.trans (congrArg some (by kernel_rfl))
  f305:=Tryz.func229.trans (congrArg some (by kernel_rfl))
  f306:=Tryz.func230.trans (congrArg some (by kernel_rfl))
  f307:=Tryz.func231.trans (congrArg some (by kernel_rfl))
  f308:=Tryz.func232.trans (congrArg some (by kernel_rfl))
  f309:=Tryz.func233.trans (congrArg some (by kernel_rfl))
  f310:=Tryz.func234.trans (congrArg some (by kernel_rfl))
  f329:=Tryz.func216.trans (congrArg some (by kernel_rfl))
  f330:=Tryz.func217.trans (congrArg some (by kernel_rfl))
  f333:=Tryz.func238.trans (congrArg some (by kernel_rfl))
  f334:=Tryz.func239.trans (congrArg some (by kernel_rfl))
  f335:=Tryz.func240.trans (congrArg some (by kernel_rfl))
  f336:=Tryz.func241.trans (congrArg some (by kernel_rfl))
  f344:=Tryz.func242.trans (congrArg some (by kernel_rfl))
  t0:=Tryz.underlying0
  a0:=Tryz.isAgg0
  z0:=Tryz.sizeOf0
  v0:=Tryz.zeroValue0
  t3:=Tryz.underlying3
  a3:=Tryz.isAgg3
  z3:=Tryz.sizeOf3
  v3:=Tryz.zeroValue3
  t4:=Tryz.underlying4
  a4:=Tryz.isAgg4
  z4:=Tryz.sizeOf4
  v4:=Tryz.zeroValue4
  t5:=Tryz.underlying5
  a5:=Tryz.isAgg5
  z5:=Tryz.sizeOf5
  v5:=Tryz.zeroValue5
  t9:=Tryz.underlying9
  a9:=Tryz.isAgg9
  z9:=Tryz.sizeOf9
  v9:=Tryz.zeroValue9
  t31:=Tryz.underlying40
  a31:=Tryz.isAgg40
  z31:=Tryz.sizeOf40
  v31:=Tryz.zeroValue40
  t46:=Tryz.underlying220
  a46:=Tryz.isAgg220
  z46:=Tryz.sizeOf220
  v46:=Tryz.zeroValue220
  t51:=Tryz.underlying267
  a51:=Tryz.isAgg267
  z51:=Tryz.sizeOf267
  v51:=Tryz.zeroValue267
  t53:=Tryz.underlying23
  a53:=Tryz.isAgg23
  z53:=Tryz.sizeOf23
  v53:=Tryz.zeroValue23
  t131:=Tryz.underlying183
  a131:=Tryz.isAgg183
  z131:=Tryz.sizeOf183
  v131:=Tryz.zeroValue183
  t182:=Tryz.underlying260
  a182:=Tryz.isAgg260
  z182:=Tryz.sizeOf260
  v182:=Tryz.zeroValue260
  t183:=Tryz.underlying261
  a183:=Tryz.isAgg261
  z183:=Tryz.sizeOf261
  v183:=Tryz.zeroValue261
  t218:=Tryz.underlying278
  a218:=Tryz.isAgg278
  z218:=Tryz.sizeOf278
  v218:=Tryz.zeroValue278
  t222:=Tryz.underlying282
  a222:=Tryz.isAgg282
  z222:=Tryz.sizeOf282
  v222:=Tryz.zeroValue282
  t228:=Tryz.underlying298
  a228:=Tryz.isAgg298
  z228:=Tryz.sizeOf298
  v228:=Tryz.zeroValue298
  t229:=Tryz.underlying299
  a229:=Tryz.isAgg299
  z229:=Tryz.sizeOf299
  v229:=Tryz.zeroValue299 }
open Go.Sort Go.RowKit in
theorem Tryz.slices_Sort_string(blk off cap:Nat)(ss:List (List UInt8))(w:World)(hH:Holds encStr w blk off ss.toArray)(hblk:blk<w.heap.size)(hsz:ss.length<4611686018427387904) :
    Calls Tryz.prog 175 #[.slice (some ⟨blk,off,none⟩) ss.length cap] w fun e w' =>
      e = .returned (.tuple #[])∧∃n os,w'=grow (putRow encStr (Sort.ahead w n) blk off (ss.mergeSort fun x y=>decide (x≤y)).toArray) os:=Any.slices_Sort_string Tryz.lays190 blk off cap ss w hH hblk hsz
def Tryz.lays147_ren:Go.Shelf.Ren:=⟨fun|147=>43|221=>88|268=>140|138=>141|143=>142|195=>178|197=>179|218=>180|219=>181|260=>210|217=>211|225=>212|224=>213|267=>214|266=>235|314=>236|n=>n,fun|9=>9|3=>3|31=>40|4=>4|0=>0|105=>253|21=>21|5=>5|46=>220|119=>292|139=>295|138=>294|146=>296|51=>267|n=>n,fun|1=>0|3=>1|4=>2|n=>n⟩
theorem Tryz.lays147:Go.Proofs.Lays.n147 Tryz.prog Tryz.lays147_ren:={
  mixed:=by kernel_rfl
  f138:=Tryz.func141.trans (congrArg some (by kernel_rfl))
  f143:=Tryz.func142.trans (congrArg some (by kernel_rfl))
  f147:=Tryz.func43.trans (congrArg some (by kernel_rfl))
  f195:=Tryz.func178.trans (congrArg some (by kernel_rfl))
  f197:=Tryz.func179.trans (congrArg some (by kernel_rfl))
  f217:=Tryz.func211.trans (congrArg some (by kernel_rfl))
  f218:=Tryz.func180.trans (congrArg some (by kernel_rfl))
  f219:=Tryz.func181.trans (congrArg some (by kernel_rfl))
  f221:=Tryz.func88.trans (congrArg some (by kernel_rfl))
  f224:=Tryz.func213.trans (congrArg some (by kernel_rfl))
  f225:=Tryz.func212.trans (congrArg some (by kernel_rfl))
  f260:=Tryz.func210.trans (congrArg some (by kernel_rfl))
  f266:=Tryz.func235.trans (congrArg some (by kernel_rfl))
  f267:=Tryz.func214.trans (congrArg some (by kernel_rfl))
  f268:=Tryz.func140.trans (congrArg some (by kernel_rfl))
  f314:=Tryz.func236.trans (congrArg some (by kernel_rfl))
  t0:=Tryz.underlying0
  a0:=Tryz.isAgg0
  z0:=Tryz.sizeOf0
  v0:=Tryz.zeroValue0
  t3:=Tryz.underlying3
  a3:=Tryz.isAgg3
  z3:=Tryz.sizeOf3
  v3:=Tryz.zeroValue3
  t4:=Tryz.underlying4
  a4:=Tryz.isAgg4
  z4:=Tryz.sizeOf4
  v4:=Tryz.zeroValue4
  t5:=Tryz.underlying5
  a5:=Tryz.isAgg5
  z5:=Tryz.sizeOf5
  v5:=Tryz.zeroValue5
  t9:=Tryz.underlying9
  a9:=Tryz.isAgg9
  z9:=Tryz.sizeOf9
  v9:=Tryz.zeroValue9
  t21:=Tryz.underlying21
  a21:=Tryz.isAgg21
  z21:=Tryz.sizeOf21
  v21:=Tryz.zeroValue21
  t31:=Tryz.underlying40
  a31:=Tryz.isAgg40
  z31:=Tryz.sizeOf40
  v31:=Tryz.zeroValue40
  t46:=Tryz.underlying220
  a46:=Tryz.isAgg220
  z46:=Tryz.sizeOf220
  v46:=Tryz.zeroValue220
  t51:=Tryz.underlying267
  a51:=Tryz.isAgg267
  z51:=Tryz.sizeOf267
  v51:=Tryz.zeroValue267
  t105:=Tryz.underlying253
  a105:=Tryz.isAgg253
  z105:=Tryz.sizeOf253
  v105:=Tryz.zeroValue253
  t119:=Tryz.underlying292
  a119:=Tryz.isAgg292
  z119:=Tryz.sizeOf292
  t138:=Tryz.underlying294
  a138:=Tryz.isAgg294
  z138:=Tryz.sizeOf294
  v138:=Tryz.zeroValue294
  t139:=Tryz.underlying295
  a139:=Tryz.isAgg295
  z139:=Tryz.sizeOf295
  v139:=Tryz.zeroValue295
  t146:=Tryz.underlying296
  a146:=Tryz.isAgg296
  z146:=Tryz.sizeOf296
  v146:=Tryz.zeroValue296
  g1:=by kernel_rfl
  g3:=by kernel_rfl
  g4:=by kernel_rfl }
open Go.RowKit Go.Lib in
theorem Tryz.strings_SplitN(s sep:ByteArray)(n:Nat)(m:Int)(w:World)(hs:s.size<4294967281)(hm:w.cell? ⟨0,0,none⟩=some (.int .i64 m))(h1:1≤sep.size)(hn:1≤n)(hn63:n≤9223372036854775807) :
    Calls Tryz.prog 43 #[.string s,.string sep,.int .i64 n] w fun e w' =>
      e = .returned (.slice (some ⟨w.heap.size,0,none⟩) (Lib.splitB sep 0 (min n (s.size+1)-1) s).length (min n (s.size+1)))∧w'=w.alloc (.cells (Lib.cellsOf (Lib.splitB sep 0 (min n (s.size+1)-1) s) (min n (s.size+1))) 9):=Any.strings_SplitN Tryz.lays147 (by kernel_rfl) s sep n m w hs hm h1 hn hn63
def Tryz.lays194_ren:Go.Shelf.Ren:=⟨fun|194=>176|n=>n,fun|31=>40|9=>9|3=>3|4=>4|0=>0|n=>n,fun|n=>n⟩
theorem Tryz.lays194:Go.Proofs.Lays.n194 Tryz.prog Tryz.lays194_ren:={
  mixed:=by kernel_rfl
  f194:=Tryz.func176.trans (congrArg some (by kernel_rfl))
  t0:=Tryz.underlying0
  a0:=Tryz.isAgg0
  z0:=Tryz.sizeOf0
  v0:=Tryz.zeroValue0
  t3:=Tryz.underlying3
  a3:=Tryz.isAgg3
  z3:=Tryz.sizeOf3
  v3:=Tryz.zeroValue3
  t4:=Tryz.underlying4
  a4:=Tryz.isAgg4
  z4:=Tryz.sizeOf4
  v4:=Tryz.zeroValue4
  t9:=Tryz.underlying9
  a9:=Tryz.isAgg9
  z9:=Tryz.sizeOf9
  v9:=Tryz.zeroValue9
  t31:=Tryz.underlying40
  a31:=Tryz.isAgg40
  z31:=Tryz.sizeOf40
  v31:=Tryz.zeroValue40 }
open Go.RowKit Go.Lib Go.Sort in
theorem Tryz.slices_Compact_string(blk off cap:Nat)(zs:List (List UInt8))(w:World)(hH:Holds encStr w blk off zs.toArray)(hsz:zs.length≤9223372036854775807)(hcap:zs.length≤cap) :
    Calls Tryz.prog 176 #[.slice (some ⟨blk,off,none⟩) zs.length cap] w fun e w'=>e = .returned (.slice (some ⟨blk,off,none⟩) (Lib.compact zs).length cap)∧∃q,w'=putRow encStr (Sort.ahead w q) blk off (Lib.compact zs++List.replicate (zs.length-(Lib.compact zs).length) []).toArray:=Any.slices_Compact_string Tryz.lays194 blk off cap zs w hH hsz hcap
open Go.RowKit Go.Lib Go.Sort in
theorem Tryz.slices_Compact_string_empty(a:Option Addr)(cap:Nat)(w:World) :
    Calls Tryz.prog 176 #[.slice a 0 cap] w fun e w'=>e = .returned (.slice a 0 cap)∧w'=w:=Any.slices_Compact_string_empty Tryz.lays194 a cap w
open Go.RowKit Go.Sort in
theorem Tryz.slices_Sort_string_none(p:Option Addr)(cap:Nat)(w:World) :
    Calls Tryz.prog 175 #[.slice p 0 cap] w fun e w'=>e = .returned (.tuple #[])∧w'=w:=Any.slices_Sort_string_none Tryz.lays190 p cap w
open Go.RowKit Go.Sort in
theorem Tryz.slices_Sort_int_none(p:Option Addr)(cap:Nat)(w:World) :
    Calls Tryz.prog 107 #[.slice p 0 cap] w fun e w'=>e = .returned (.tuple #[])∧w'=w:=Any.slices_Sort_int_none Tryz.lays189 p cap w
end Go.Proofs
