/- What the library functions that the program calls give at this dump. -/
import Derived.Shelf.Strings.Builder1
import Derived.Shelf.Strings.Builder2
import Derived.Shelf.Strings.OnBuilder
import Derived.Shelf.Small.Bits
import Derived.Shelf.Small.Wraps
import Derived.Shelf.Strconv.Itoa0
import Derived.Shelf.LaysM
import Derived.Shelf.Strconv.Clone
import Derived.Shelf.Strings.Search1
import Derived.Shelf.Strings.Search2
import Derived.Shelf.Strings.Search3
import Derived.Shelf.Strings.Count
import Derived.Shelf.Strings.Shaped
import Derived.Shelf.Sort.Plain
import Derived.Shelf.Strings.Prefix
import Derived.Shelf.Strings.Split
import Derived.Shelf.Strings.SplitShaped
import Derived.Shelf.Unicode.DecodeSlow
import Derived.Shelf.Slices.Turned
import Derived.Shelf.Slices.Equal
import Derived.Shelf.Slices.CompactS
import Derived.Shelf.Slices.Cells
import Derived.Shelf.Slices.In.SortNone
import Derived.Ground.SlbCloneProg
import Derived.Shelf.Bytes.SlClone
import Derived.Test.YtiaapfijbidgnaaGreatDoorProg
namespace Go.Proofs
open Go.Shelf
def Tryz.lays156_ren:Go.Shelf.Ren:=⟨fun|156=>116|165=>167|166=>168|169=>169|240=>202|241=>203|276=>221|277=>222|n=>n,fun|31=>83|9=>9|3=>3|4=>4|0=>0|20=>20|72=>224|76=>228|70=>222|37=>38|75=>227|127=>263|164=>279|5=>5|80=>230|n=>n,fun|n=>n⟩
theorem Tryz.lays156:Go.Proofs.Lays.n156 Tryz.prog Tryz.lays156_ren:={
  mixed:=by kernel_rfl
  f156:=Tryz.func116.trans (congrArg some (by kernel_rfl))
  f165:=Tryz.func167.trans (congrArg some (by kernel_rfl))
  f166:=Tryz.func168.trans (congrArg some (by kernel_rfl))
  f169:=Tryz.func169.trans (congrArg some (by kernel_rfl))
  f240:=Tryz.func202.trans (congrArg some (by kernel_rfl))
  f241:=Tryz.func203.trans (congrArg some (by kernel_rfl))
  f276:=Tryz.func221.trans (congrArg some (by kernel_rfl))
  f277:=Tryz.func222.trans (congrArg some (by kernel_rfl))
  t0:=Tryz.underlying0
  a0:=Tryz.isAgg0
  z0:=Tryz.sizeOf0
  v0:=Tryz.zeroValue0
  t3:=Tryz.underlying3
  a3:=Tryz.isAgg3
  z3:=Tryz.sizeOf3
  v3:=Tryz.zeroValue3
  t4:=Tryz.underlying4
  a4:=Tryz.isAgg4
  z4:=Tryz.sizeOf4
  v4:=Tryz.zeroValue4
  t9:=Tryz.underlying9
  a9:=Tryz.isAgg9
  z9:=Tryz.sizeOf9
  v9:=Tryz.zeroValue9
  t20:=Tryz.underlying20
  a20:=Tryz.isAgg20
  z20:=Tryz.sizeOf20
  v20:=Tryz.zeroValue20
  t31:=Tryz.underlying83
  a31:=Tryz.isAgg83
  z31:=Tryz.sizeOf83
  v31:=Tryz.zeroValue83
  t37:=Tryz.underlying38
  a37:=Tryz.isAgg38
  z37:=Tryz.sizeOf38
  v37:=Tryz.zeroValue38
  t70:=Tryz.underlying222
  a70:=Tryz.isAgg222
  z70:=Tryz.sizeOf222
  v70:=Tryz.zeroValue222
  t72:=Tryz.underlying224
  a72:=Tryz.isAgg224
  z72:=Tryz.sizeOf224
  v72:=Tryz.zeroValue224
  t75:=Tryz.underlying227
  a75:=Tryz.isAgg227
  z75:=Tryz.sizeOf227
  v75:=Tryz.zeroValue227
  t76:=Tryz.underlying228
  a76:=Tryz.isAgg228
  z76:=Tryz.sizeOf228
  v76:=Tryz.zeroValue228
  t127:=Tryz.underlying263
  a127:=Tryz.isAgg263
  z127:=Tryz.sizeOf263
  v127:=Tryz.zeroValue263
  t164:=Tryz.underlying279
  a164:=Tryz.isAgg279
  z164:=Tryz.sizeOf279
  v164:=Tryz.zeroValue279 }
theorem Tryz.Builder_Extra_156:Builder.Extra Tryz.prog Tryz.lays156_ren:={
  sizeBuilder:=by kernel_rfl
  liesBuilder:=by kernel_rfl
  t5:=Tryz.underlying5
  a5:=Tryz.isAgg5
  z5:=Tryz.sizeOf5
  v5:=Tryz.zeroValue5
  infoByte:=by kernel_rfl
  cellsByte:=by kernel_rfl
  sizeByte:=by kernel_rfl
  neB5:=by decide }
open Go.RowKit in
theorem Tryz.strings_Join_none(a:Option Addr)(c:Nat)(sep:ByteArray)(w:World) :
    Calls Tryz.prog 116 #[.slice a 0 c,.string sep] w fun e w'=>e = .returned (.string ⟨#[]⟩)∧w'=w:=Any.strings_Join_none Tryz.lays156 Tryz.Builder_Extra_156 a c sep w
open Go.RowKit in
theorem Tryz.strings_Join(bk o c:Nat)(xs:List ByteArray)(sep:ByteArray)(w:World)(hcells:∀(j:Nat) x,xs[j]? = some x→w.cell? ⟨bk,o+j,none⟩=some (.string x))(hbk:bk<w.heap.size)(hN:xs.length≤140737488355328)(hcap:xs.length≤c)(hlen:(Lib.join (xs.map (·.data.toList)) sep.data.toList).length≤140737488355328) :
    Calls Tryz.prog 116 #[.slice (some ⟨bk,o,none⟩) xs.length c,.string sep] w fun e w'=>e = .returned (.string ⟨(Lib.join (xs.map (·.data.toList)) sep.data.toList).toArray⟩)∧Below w.heap.size w w':=Any.strings_Join Tryz.lays156 Tryz.Builder_Extra_156 bk o c xs sep w hcells hbk hN hcap hlen
def Tryz.lays103_ren:Go.Shelf.Ren:=⟨fun|103=>112|210=>163|206=>198|n=>n,fun|9=>9|4=>4|24=>171|3=>3|n=>n,fun|n=>n⟩
theorem Tryz.lays103:Go.Proofs.Lays.n103 Tryz.prog Tryz.lays103_ren:={
  mixed:=by kernel_rfl
  f103:=Tryz.func112.trans (congrArg some (by kernel_rfl))
  f206:=Tryz.func198.trans (congrArg some (by kernel_rfl))
  f210:=Tryz.func163.trans (congrArg some (by kernel_rfl))
  t3:=Tryz.underlying3
  a3:=Tryz.isAgg3
  z3:=Tryz.sizeOf3
  v3:=Tryz.zeroValue3
  t4:=Tryz.underlying4
  a4:=Tryz.isAgg4
  z4:=Tryz.sizeOf4
  v4:=Tryz.zeroValue4
  t9:=Tryz.underlying9
  a9:=Tryz.isAgg9
  z9:=Tryz.sizeOf9
  v9:=Tryz.zeroValue9
  t24:=Tryz.underlying171
  a24:=Tryz.isAgg171
  z24:=Tryz.sizeOf171
  v24:=Tryz.zeroValue171 }
open Go.RowKit in
theorem Tryz.strings_CutPrefix(s p:ByteArray)(w:World) :
    Calls Tryz.prog 112 #[.string s,.string p] w fun e w'=>e = .returned (.tuple #[.string ⟨(Lib.trimPrefix s.data.toList p.data.toList).toArray⟩,.bool (Lib.hasPrefix s.data.toList p.data.toList)])∧w'=w:=Any.strings_CutPrefix Tryz.lays103 s p w
def Tryz.laysM316_ren:Go.Shelf.Ren:=⟨fun|316=>166|n=>n,fun|9=>9|3=>3|4=>4|37=>38|0=>0|127=>263|5=>5|n=>n,fun|n=>n⟩
theorem Tryz.laysM316:Go.Proofs.LaysM.n316 Tryz.prog Tryz.laysM316_ren:={
  mixed:=by kernel_rfl
  f316:=Tryz.func166.trans (congrArg some (by kernel_rfl))
  t0:=Tryz.underlying0
  a0:=Tryz.isAgg0
  z0:=Tryz.sizeOf0
  v0:=Tryz.zeroValue0
  t3:=Tryz.underlying3
  a3:=Tryz.isAgg3
  z3:=Tryz.sizeOf3
  v3:=Tryz.zeroValue3
  t4:=Tryz.underlying4
  a4:=Tryz.isAgg4
  z4:=Tryz.sizeOf4
  v4:=Tryz.zeroValue4
  t9:=Tryz.underlying9
  a9:=Tryz.isAgg9
  z9:=Tryz.sizeOf9
  v9:=Tryz.zeroValue9
  t37:=Tryz.underlying38
  a37:=Tryz.isAgg38
  z37:=Tryz.sizeOf38
  v37:=Tryz.zeroValue38
  t127:=Tryz.underlying263
  a127:=Tryz.isAgg263
  z127:=Tryz.sizeOf263
  v127:=Tryz.zeroValue263
  t5:=Tryz.underlying5
  a5:=Tryz.isAgg5
  z5:=Tryz.sizeOf5
  v5:=Tryz.zeroValue5
  i0:=by kernel_rfl
  i3:=by kernel_rfl
  i4:=by kernel_rfl
  i5:=by kernel_rfl
  i9:=by kernel_rfl
  i37:=by kernel_rfl
  i127:=by kernel_rfl }
open Go.RowKit in
theorem Tryz.stringslite_Clone(s:ByteArray)(w:World)(hlim:s.size≤281474976710656) :
    Calls Tryz.prog 166 #[.string s] w fun e w'=>e = .returned (.string s)∧Below w.heap.size w w':=Any.stringslite_Clone Tryz.laysM316 s w hlim
def Tryz.lays190_ren:Go.Shelf.Ren:=⟨fun|190=>175|125=>210|258=>209|128=>235|129=>236|302=>226|303=>227|304=>228|305=>229|306=>230|307=>231|308=>232|309=>233|310=>234|333=>245|329=>246|330=>247|334=>248|335=>249|336=>250|344=>254|n=>n,fun|31=>83|9=>9|3=>3|46=>271|0=>0|51=>292|53=>58|4=>4|183=>286|182=>285|131=>114|5=>5|218=>296|222=>300|228=>308|229=>309|n=>n,fun|n=>n⟩
theorem Tryz.lays190:Go.Proofs.Lays.n190 Tryz.prog Tryz.lays190_ren:={
  mixed:=by kernel_rfl
  f125:=Tryz.func210.trans (congrArg some (by kernel_rfl))
  f128:=Tryz.func235.trans (congrArg some (by kernel_rfl))
  f129:=Tryz.func236.trans (congrArg some (by kernel_rfl))
  f190:=Tryz.func175.trans (congrArg some (by kernel_rfl))
  f258:=Tryz.func209.trans (congrArg some (by kernel_rfl))
  f302:=Tryz.func226.trans (congrArg some (by kernel_rfl))
  f303:=Tryz.func227.trans (congrArg some (by kernel_rfl))
  f304:=Tryz.func228.trans (congrArg some (by kernel_rfl))
  f305:=Tryz.func229.trans (congrArg some (by kernel_rfl))
  f306:=Tryz.func230.trans (congrArg some (by kernel_rfl))
  f307:=Tryz.func231.trans (congrArg some (by kernel_rfl))
  f308:=Tryz.func232.trans (congrArg some (by kernel_rfl))
  f309:=Tryz.func233.trans (congrArg some (by kernel_rfl))
  f310:=Tryz.func234.trans (congrArg some (by kernel_rfl))
  f329:=Tryz.func246.trans (congrArg some (by kernel_rfl))
  f330:=Tryz.func247.trans (congrArg some (by kernel_rfl))
  f333:=Tryz.func245.trans (congrArg some (by kernel_rfl))
  f334:=Tryz.func248.trans (congrArg some (by kernel_rfl))
  f335:=Tryz.func249.trans (congrArg some (by kernel_rfl))
  f336:=Tryz.func250.trans (congrArg some (by kernel_rfl))
  f344:=Tryz.func254.trans (congrArg some (by kernel_rfl))
  t0:=Tryz.underlying0
  a0:=Tryz.isAgg0
  z0:=Tryz.sizeOf0
  v0:=Tryz.zeroValue0
  t3:=Tryz.underlying3
  a3:=Tryz.isAgg3
  z3:=Tryz.sizeOf3
  v3:=Tryz.zeroValue3
  t4:=Tryz.underlying4
  a4:=Tryz.isAgg4
  z4:=Tryz.sizeOf4
  v4:=Tryz.zeroValue4
  t5:=Tryz.underlying5
  a5:=Tryz.isAgg5
  z5:=Tryz.sizeOf5
  v5:=Tryz.zeroValue5
  t9:=Tryz.underlying9
  a9:=Tryz.isAgg9
  z9:=Tryz.sizeOf9
  v9:=Tryz.zeroValue9
  t31:=Tryz.underlying83
  a31:=Tryz.isAgg83
  z31:=Tryz.sizeOf83
  v31:=Tryz.zeroValue83
  t46:=Tryz.underlying271
  a46:=Tryz.isAgg271
  z46:=Tryz.sizeOf271
  v46:=Tryz.zeroValue271
  t51:=Tryz.underlying292
  a51:=Tryz.isAgg292
  z51:=Tryz.sizeOf292
  v51:=Tryz.zeroValue292
  t53:=Tryz.underlying58
  a53:=Tryz.isAgg58
  z53:=Tryz.sizeOf58
  v53:=Tryz.zeroValue58
  t131:=Tryz.underlying114
  a131:=Tryz.isAgg114
  z131:=Tryz.sizeOf114
  v131:=Tryz.zeroValue114
  t182:=Tryz.underlying285
  a182:=Tryz.isAgg285
  z182:=Tryz.sizeOf285
  v182:=Tryz.zeroValue285
  t183:=Tryz.underlying286
  a183:=Tryz.isAgg286
  z183:=Tryz.sizeOf286
  v183:=Tryz.zeroValue286
  t218:=Tryz.underlying296
  a218:=Tryz.isAgg296
  z218:=Tryz.sizeOf296
  v218:=Tryz.zeroValue296
  t222:=Tryz.underlying300
  a222:=Tryz.isAgg300
  z222:=Tryz.sizeOf300
  v222:=Tryz.zeroValue300
  t228:=Tryz.underlying308
  a228:=Tryz.isAgg308
  z228:=Tryz.sizeOf308
  v228:=Tryz.zeroValue308
  t229:=Tryz.underlying309
  a229:=Tryz.isAgg309
  z229:=Tryz.sizeOf309
  v229:=Tryz.zeroValue309 }
open Go.Sort Go.RowKit in
theorem Tryz.slices_Sort_string(blk off cap:Nat)(ss:List (List UInt8))(w:World)(hH:Holds encStr w blk off ss.toArray)(hblk:blk<w.heap.size)(hsz:ss.length<4611686018427387904) :
    Calls Tryz.prog 175 #[.slice (some ⟨blk,off,none⟩) ss.length cap] w fun e w' =>
      e = .returned (.tuple #[])∧∃n os,w'=grow (putRow encStr (Sort.ahead w n) blk off (ss.mergeSort fun x y=>decide (x≤y)).toArray) os:=Any.slices_Sort_string Tryz.lays190 blk off cap ss w hH hblk hsz
def Tryz.lays147_ren:Go.Shelf.Ren:=⟨fun|147=>113|221=>164|268=>199|138=>200|143=>201|195=>217|197=>218|218=>219|219=>220|260=>240|217=>241|225=>242|224=>243|267=>244|266=>252|314=>253|n=>n,fun|9=>9|3=>3|31=>83|4=>4|0=>0|105=>276|21=>21|5=>5|46=>271|119=>302|139=>305|138=>304|146=>306|51=>292|n=>n,fun|1=>0|3=>1|4=>2|n=>n⟩
theorem Tryz.lays147:Go.Proofs.Lays.n147 Tryz.prog Tryz.lays147_ren:={
  mixed:=by kernel_rfl
  f138:=Tryz.func200.trans (congrArg some (by kernel_rfl))
  f143:=Tryz.func201.trans (congrArg some (by kernel_rfl))
  f147:=Tryz.func113.trans (congrArg some (by kernel_rfl))
  f195:=Tryz.func217.trans (congrArg some (by kernel_rfl))
  f197:=Tryz.func218.trans (congrArg some (by kernel_rfl))
  f217:=Tryz.func241.trans (congrArg some (by kernel_rfl))
  f218:=Tryz.func219.trans (congrArg some (by kernel_rfl))
  f219:=Tryz.func220.trans (congrArg some (by kernel_rfl))
  f221:=Tryz.func164.trans (congrArg some (by kernel_rfl))
  f224:=Tryz.func243.trans (congrArg some (by kernel_rfl))
  f225:=Tryz.func242.trans (congrArg some (by kernel_rfl))
  f260:=Tryz.func240.trans (congrArg some (by kernel_rfl))
  f266:=Tryz.func252.trans (congrArg some (by kernel_rfl))
  f267:=Tryz.func244.trans (congrArg some (by kernel_rfl))
  f268:=Tryz.func199.trans (congrArg some (by kernel_rfl))
  f314:=Tryz.func253.trans (congrArg some (by kernel_rfl))
  t0:=Tryz.underlying0
  a0:=Tryz.isAgg0
  z0:=Tryz.sizeOf0
  v0:=Tryz.zeroValue0
  t3:=Tryz.underlying3
  a3:=Tryz.isAgg3
  z3:=Tryz.sizeOf3
  v3:=Tryz.zeroValue3
  t4:=Tryz.underlying4
  a4:=Tryz.isAgg4
  z4:=Tryz.sizeOf4
  v4:=Tryz.zeroValue4
  t5:=Tryz.underlying5
  a5:=Tryz.isAgg5
  z5:=Tryz.sizeOf5
  v5:=Tryz.zeroValue5
  t9:=Tryz.underlying9
  a9:=Tryz.isAgg9
  z9:=Tryz.sizeOf9
  v9:=Tryz.zeroValue9
  t21:=Tryz.underlying21
  a21:=Tryz.isAgg21
  z21:=Tryz.sizeOf21
  v21:=Tryz.zeroValue21
  t31:=Tryz.underlying83
  a31:=Tryz.isAgg83
  z31:=Tryz.sizeOf83
  v31:=Tryz.zeroValue83
  t46:=Tryz.underlying271
  a46:=Tryz.isAgg271
  z46:=Tryz.sizeOf271
  v46:=Tryz.zeroValue271
  t51:=Tryz.underlying292
  a51:=Tryz.isAgg292
  z51:=Tryz.sizeOf292
  v51:=Tryz.zeroValue292
  t105:=Tryz.underlying276
  a105:=Tryz.isAgg276
  z105:=Tryz.sizeOf276
  v105:=Tryz.zeroValue276
  t119:=Tryz.underlying302
  a119:=Tryz.isAgg302
  z119:=Tryz.sizeOf302
  t138:=Tryz.underlying304
  a138:=Tryz.isAgg304
  z138:=Tryz.sizeOf304
  v138:=Tryz.zeroValue304
  t139:=Tryz.underlying305
  a139:=Tryz.isAgg305
  z139:=Tryz.sizeOf305
  v139:=Tryz.zeroValue305
  t146:=Tryz.underlying306
  a146:=Tryz.isAgg306
  z146:=Tryz.sizeOf306
  v146:=Tryz.zeroValue306
  g1:=by kernel_rfl
  g3:=by kernel_rfl
  g4:=by kernel_rfl }
open Go.RowKit Go.Lib in
theorem Tryz.strings_SplitN(s sep:ByteArray)(n:Nat)(m:Int)(w:World)(hs:s.size<4294967281)(hm:w.cell? ⟨0,0,none⟩=some (.int .i64 m))(h1:1≤sep.size)(hn:1≤n)(hn63:n≤9223372036854775807) :
    Calls Tryz.prog 113 #[.string s,.string sep,.int .i64 n] w fun e w' =>
      e = .returned (.slice (some ⟨w.heap.size,0,none⟩) (Lib.splitB sep 0 (min n (s.size+1)-1) s).length (min n (s.size+1)))∧w'=w.alloc (.cells (Lib.cellsOf (Lib.splitB sep 0 (min n (s.size+1)-1) s) (min n (s.size+1))) 9):=Any.strings_SplitN Tryz.lays147 (by kernel_rfl) s sep n m w hs hm h1 hn hn63
def Tryz.lays194_ren:Go.Shelf.Ren:=⟨fun|194=>176|n=>n,fun|31=>83|9=>9|3=>3|4=>4|0=>0|n=>n,fun|n=>n⟩
theorem Tryz.lays194:Go.Proofs.Lays.n194 Tryz.prog Tryz.lays194_ren:={
  mixed:=by kernel_rfl
  f194:=Tryz.func176.trans (congrArg some (by kernel_rfl))
  t0:=Tryz.underlying0
  a0:=Tryz.isAgg0
  z0:=Tryz.sizeOf0
  v0:=Tryz.zeroValue0
  t3:=Tryz.underlying3
  a3:=Tryz.isAgg3
  z3:=Tryz.sizeOf3
  v3:=Tryz.zeroValue3
  t4:=Tryz.underlying4
  a4:=Tryz.isAgg4
  z4:=Tryz.sizeOf4
  v4:=Tryz.zeroValue4
  t9:=Tryz.underlying9
  a9:=Tryz.isAgg9
  z9:=Tryz.sizeOf9
  v9:=Tryz.zeroValue9
  t31:=Tryz.underlying83
  a31:=Tryz.isAgg83
  z31:=Tryz.sizeOf83
  v31:=Tryz.zeroValue83 }
open Go.RowKit Go.Lib Go.Sort in
theorem Tryz.slices_Compact_string(blk off cap:Nat)(zs:List (List UInt8))(w:World)(hH:Holds encStr w blk off zs.toArray)(hsz:zs.length≤9223372036854775807)(hcap:zs.length≤cap) :
    Calls Tryz.prog 176 #[.slice (some ⟨blk,off,none⟩) zs.length cap] w fun e w'=>e = .returned (.slice (some ⟨blk,off,none⟩) (Lib.compact zs).length cap)∧∃q,w'=putRow encStr (Sort.ahead w q) blk off (Lib.compact zs++List.replicate (zs.length-(Lib.compact zs).length) []).toArray:=Any.slices_Compact_string Tryz.lays194 blk off cap zs w hH hsz hcap
open Go.RowKit Go.Lib Go.Sort in
theorem Tryz.slices_Compact_string_empty(a:Option Addr)(cap:Nat)(w:World) :
    Calls Tryz.prog 176 #[.slice a 0 cap] w fun e w'=>e = .returned (.slice a 0 cap)∧w'=w:=Any.slices_Compact_string_empty Tryz.lays194 a cap w
open Go.RowKit Go.Sort in
theorem Tryz.slices_Sort_string_none(p:Option Addr)(cap:Nat)(w:World) :
    Calls Tryz.prog 175 #[.slice p 0 cap] w fun e w'=>e = .returned (.tuple #[])∧w'=w:=Any.slices_Sort_string_none Tryz.lays190 p cap w
end Go.Proofs
