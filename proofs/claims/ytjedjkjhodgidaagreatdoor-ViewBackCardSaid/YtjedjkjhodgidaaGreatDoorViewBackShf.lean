/- What the library functions that the program calls give at this dump. -/
import Derived.Shelf.Strings.Builder1
import Derived.Shelf.Strings.Builder2
import Derived.Shelf.Strings.OnBuilder
import Derived.Shelf.Small.Bits
import Derived.Shelf.Small.Strs
import Derived.Shelf.Small.Wraps
import Derived.Shelf.Strings.BuilderF
import Derived.Shelf.Strings.BuilderK
import Derived.Shelf.Strconv.Itoa0
import Derived.Shelf.LaysM
import Derived.Shelf.Strconv.Clone
import Derived.Shelf.Strings.Search1
import Derived.Shelf.Strings.Search2
import Derived.Shelf.Strings.Search3
import Derived.Shelf.Strings.Cut
import Derived.Shelf.Strings.Count
import Derived.Shelf.Strings.Shaped
import Derived.Shelf.Sort.Plain
import Derived.Shelf.Strings.Prefix
import Derived.Shelf.Strings.Split
import Derived.Shelf.Strings.SplitShaped
import Derived.Shelf.Unicode.DecodeSlow
import Derived.Shelf.Unicode.DecodeAny
import Derived.Shelf.Slices.Turned
import Derived.Shelf.Slices.CompactS
import Derived.Shelf.Slices.Cells
import Derived.Shelf.Slices.In.SortNone
import Derived.Ground.SlbCloneProg
import Derived.Shelf.Bytes.SlClone
import Derived.Test.YtjedjkjhodgidaaGreatDoorProg
namespace Go.Proofs
open Go.Shelf
def Tryz.lays169_ren:Go.Shelf.Ren:=⟨fun|169=>46|n=>n,fun|70=>91|9=>9|0=>0|72=>93|37=>54|127=>159|3=>3|5=>5|n=>n,fun|n=>n⟩
theorem Tryz.lays169:Go.Proofs.Lays.n169 Tryz.prog Tryz.lays169_ren:={
  mixed:=by kernel_rfl
  f169:=Tryz.func46.trans (congrArg some (by kernel_rfl))
  t0:=Tryz.underlying0
  a0:=Tryz.isAgg0
  z0:=Tryz.sizeOf0
  v0:=Tryz.zeroValue0
  t3:=Tryz.underlying3
  a3:=Tryz.isAgg3
  z3:=Tryz.sizeOf3
  v3:=Tryz.zeroValue3
  t9:=Tryz.underlying9
  a9:=Tryz.isAgg9
  z9:=Tryz.sizeOf9
  v9:=Tryz.zeroValue9
  t37:=Tryz.underlying54
  a37:=Tryz.isAgg54
  z37:=Tryz.sizeOf54
  v37:=Tryz.zeroValue54
  t70:=Tryz.underlying91
  a70:=Tryz.isAgg91
  z70:=Tryz.sizeOf91
  v70:=Tryz.zeroValue91
  t72:=Tryz.underlying93
  a72:=Tryz.isAgg93
  z72:=Tryz.sizeOf93
  v72:=Tryz.zeroValue93
  t127:=Tryz.underlying159
  a127:=Tryz.isAgg159
  z127:=Tryz.sizeOf159
  v127:=Tryz.zeroValue159 }
theorem Tryz.Builder_Extra_169:Builder.Extra Tryz.prog Tryz.lays169_ren:={
  sizeBuilder:=by kernel_rfl
  liesBuilder:=by kernel_rfl
  t5:=Tryz.underlying5
  a5:=Tryz.isAgg5
  z5:=Tryz.sizeOf5
  v5:=Tryz.zeroValue5
  infoByte:=by kernel_rfl
  cellsByte:=by kernel_rfl
  sizeByte:=by kernel_rfl
  neB5:=by decide }
def Tryz.lays156_ren:Go.Shelf.Ren:=⟨fun|156=>168|165=>204|166=>44|169=>46|240=>96|241=>226|276=>140|277=>233|n=>n,fun|31=>113|9=>9|3=>3|4=>4|0=>0|20=>20|72=>93|76=>97|70=>91|37=>54|75=>96|127=>159|164=>195|5=>5|80=>100|n=>n,fun|n=>n⟩
theorem Tryz.lays156:Go.Proofs.Lays.n156 Tryz.prog Tryz.lays156_ren:={
  mixed:=by kernel_rfl
  f156:=Tryz.func168.trans (congrArg some (by kernel_rfl))
  f165:=Tryz.func204.trans (congrArg some (by kernel_rfl))
  f166:=Tryz.func44.trans (congrArg some (by kernel_rfl))
  f169:=Tryz.func46.trans (congrArg some (by kernel_rfl))
  f240:=Tryz.func96.trans (congrArg some (by kernel_rfl))
  f241:=Tryz.func226.trans (congrArg some (by kernel_rfl))
  f276:=Tryz.func140.trans (congrArg some (by kernel_rfl))
  f277:=Tryz.func233.trans (congrArg some (by kernel_rfl))
  t0:=Tryz.underlying0
  a0:=Tryz.isAgg0
  z0:=Tryz.sizeOf0
  v0:=Tryz.zeroValue0
  t3:=Tryz.underlying3
  a3:=Tryz.isAgg3
  z3:=Tryz.sizeOf3
  v3:=Tryz.zeroValue3
  t4:=Tryz.underlying4
  a4:=Tryz.isAgg4
  z4:=Tryz.sizeOf4
  v4:=Tryz.zeroValue4
  t9:=Tryz.underlying9
  a9:=Tryz.isAgg9
  z9:=Tryz.sizeOf9
  v9:=Tryz.zeroValue9
  t20:=Tryz.underlying20
  a20:=Tryz.isAgg20
  z20:=Tryz.sizeOf20
  v20:=Tryz.zeroValue20
  t31:=Tryz.underlying113
  a31:=Tryz.isAgg113
  z31:=Tryz.sizeOf113
  v31:=Tryz.zeroValue113
  t37:=Tryz.underlying54
  a37:=Tryz.isAgg54
  z37:=Tryz.sizeOf54
  v37:=Tryz.zeroValue54
  t70:=Tryz.underlying91
  a70:=Tryz.isAgg91
  z70:=Tryz.sizeOf91
  v70:=Tryz.zeroValue91
  t72:=Tryz.underlying93
  a72:=Tryz.isAgg93
  z72:=Tryz.sizeOf93
  v72:=Tryz.zeroValue93
  t75:=Tryz.underlying96
  a75:=Tryz.isAgg96
  z75:=Tryz.sizeOf96
  v75:=Tryz.zeroValue96
  t76:=Tryz.underlying97
  a76:=Tryz.isAgg97
  z76:=Tryz.sizeOf97
  v76:=Tryz.zeroValue97
  t127:=Tryz.underlying159
  a127:=Tryz.isAgg159
  z127:=Tryz.sizeOf159
  v127:=Tryz.zeroValue159
  t164:=Tryz.underlying195
  a164:=Tryz.isAgg195
  z164:=Tryz.sizeOf195
  v164:=Tryz.zeroValue195 }
theorem Tryz.Builder_Extra_156:Builder.Extra Tryz.prog Tryz.lays156_ren:={
  sizeBuilder:=by kernel_rfl
  liesBuilder:=by kernel_rfl
  t5:=Tryz.underlying5
  a5:=Tryz.isAgg5
  z5:=Tryz.sizeOf5
  v5:=Tryz.zeroValue5
  infoByte:=by kernel_rfl
  cellsByte:=by kernel_rfl
  sizeByte:=by kernel_rfl
  neB5:=by decide }
open Go.RowKit in
theorem Tryz.strings_Join_none(a:Option Addr)(c:Nat)(sep:ByteArray)(w:World) :
    Calls Tryz.prog 168 #[.slice a 0 c,.string sep] w fun e w'=>e = .returned (.string ⟨#[]⟩)∧w'=w:=Any.strings_Join_none Tryz.lays156 Tryz.Builder_Extra_156 a c sep w
open Go.RowKit in
theorem Tryz.strings_Join(bk o c:Nat)(xs:List ByteArray)(sep:ByteArray)(w:World)(hcells:∀(j:Nat) x,xs[j]? = some x→w.cell? ⟨bk,o+j,none⟩=some (.string x))(hbk:bk<w.heap.size)(hN:xs.length≤140737488355328)(hcap:xs.length≤c)(hlen:(Lib.join (xs.map (·.data.toList)) sep.data.toList).length≤140737488355328) :
    Calls Tryz.prog 168 #[.slice (some ⟨bk,o,none⟩) xs.length c,.string sep] w fun e w'=>e = .returned (.string ⟨(Lib.join (xs.map (·.data.toList)) sep.data.toList).toArray⟩)∧Below w.heap.size w w':=Any.strings_Join Tryz.lays156 Tryz.Builder_Extra_156 bk o c xs sep w hcells hbk hN hcap hlen
def Tryz.lays137_ren:Go.Shelf.Ren:=⟨fun|137=>94|217=>139|266=>171|n=>n,fun|9=>9|5=>5|3=>3|n=>n,fun|n=>n⟩
theorem Tryz.lays137:Go.Proofs.Lays.n137 Tryz.prog Tryz.lays137_ren:={
  mixed:=by kernel_rfl
  f137:=Tryz.func94.trans (congrArg some (by kernel_rfl))
  f217:=Tryz.func139.trans (congrArg some (by kernel_rfl))
  f266:=Tryz.func171.trans (congrArg some (by kernel_rfl))
  t3:=Tryz.underlying3
  a3:=Tryz.isAgg3
  z3:=Tryz.sizeOf3
  v3:=Tryz.zeroValue3
  t5:=Tryz.underlying5
  a5:=Tryz.isAgg5
  z5:=Tryz.sizeOf5
  v5:=Tryz.zeroValue5
  t9:=Tryz.underlying9
  a9:=Tryz.isAgg9
  z9:=Tryz.sizeOf9
  v9:=Tryz.zeroValue9 }
open Go.RowKit in
theorem Tryz.strings_IndexByte(s:ByteArray)(c:Int)(w:World) :
    Calls Tryz.prog 94 #[.string s,.int .u8 c] w fun e w'=>e = .returned (.int .i64 (Lib.indexByte s.data.toList c.toNat.toUInt8))∧w'=w:=Any.strings_IndexByte Tryz.lays137 s c w
def Tryz.lays103_ren:Go.Shelf.Ren:=⟨fun|103=>104|210=>145|206=>174|n=>n,fun|9=>9|4=>4|24=>36|3=>3|n=>n,fun|n=>n⟩
theorem Tryz.lays103:Go.Proofs.Lays.n103 Tryz.prog Tryz.lays103_ren:={
  mixed:=by kernel_rfl
  f103:=Tryz.func104.trans (congrArg some (by kernel_rfl))
  f206:=Tryz.func174.trans (congrArg some (by kernel_rfl))
  f210:=Tryz.func145.trans (congrArg some (by kernel_rfl))
  t3:=Tryz.underlying3
  a3:=Tryz.isAgg3
  z3:=Tryz.sizeOf3
  v3:=Tryz.zeroValue3
  t4:=Tryz.underlying4
  a4:=Tryz.isAgg4
  z4:=Tryz.sizeOf4
  v4:=Tryz.zeroValue4
  t9:=Tryz.underlying9
  a9:=Tryz.isAgg9
  z9:=Tryz.sizeOf9
  v9:=Tryz.zeroValue9
  t24:=Tryz.underlying36
  a24:=Tryz.isAgg36
  z24:=Tryz.sizeOf36
  v24:=Tryz.zeroValue36 }
open Go.RowKit in
theorem Tryz.strings_CutPrefix(s p:ByteArray)(w:World) :
    Calls Tryz.prog 104 #[.string s,.string p] w fun e w'=>e = .returned (.tuple #[.string ⟨(Lib.trimPrefix s.data.toList p.data.toList).toArray⟩,.bool (Lib.hasPrefix s.data.toList p.data.toList)])∧w'=w:=Any.strings_CutPrefix Tryz.lays103 s p w
def Tryz.lays104_ren:Go.Shelf.Ren:=⟨fun|104=>99|211=>141|207=>172|n=>n,fun|9=>9|4=>4|24=>36|3=>3|n=>n,fun|n=>n⟩
theorem Tryz.lays104:Go.Proofs.Lays.n104 Tryz.prog Tryz.lays104_ren:={
  mixed:=by kernel_rfl
  f104:=Tryz.func99.trans (congrArg some (by kernel_rfl))
  f207:=Tryz.func172.trans (congrArg some (by kernel_rfl))
  f211:=Tryz.func141.trans (congrArg some (by kernel_rfl))
  t3:=Tryz.underlying3
  a3:=Tryz.isAgg3
  z3:=Tryz.sizeOf3
  v3:=Tryz.zeroValue3
  t4:=Tryz.underlying4
  a4:=Tryz.isAgg4
  z4:=Tryz.sizeOf4
  v4:=Tryz.zeroValue4
  t9:=Tryz.underlying9
  a9:=Tryz.isAgg9
  z9:=Tryz.sizeOf9
  v9:=Tryz.zeroValue9
  t24:=Tryz.underlying36
  a24:=Tryz.isAgg36
  z24:=Tryz.sizeOf36
  v24:=Tryz.zeroValue36 }
open Go.RowKit in
theorem Tryz.strings_CutSuffix(s p:ByteArray)(w:World)(hs:s.size≤9223372036854775807) :
    Calls Tryz.prog 99 #[.string s,.string p] w fun e w'=>e = .returned (.tuple #[.string ⟨(Lib.trimSuffix s.data.toList p.data.toList).toArray⟩,.bool (Lib.hasSuffix s.data.toList p.data.toList)])∧w'=w:=Any.strings_CutSuffix Tryz.lays104 s p w hs
open Go.RowKit in
theorem Tryz.Builder_String_any_f(B b:Nat)(l:List UInt8)(w:World)(h:Lib.IsBuilderF 93 5 B b (Lib.byteCells l) w)(hBw:B≤w.heap.size) :
    Calls Tryz.prog 46 #[.pointer (some ⟨b,0,none⟩)] w fun e w'=>e = .returned (.string ⟨l.toArray⟩)∧(Lib.IsBuilderF 93 5 B b (Lib.byteCells l) w'∧Below B w w'):=Any.Builder_String_any_f Tryz.lays169 Tryz.Builder_Extra_169 B b l w h hBw
def Tryz.laysM316_ren:Go.Shelf.Ren:=⟨fun|316=>101|n=>n,fun|9=>9|3=>3|4=>4|37=>54|0=>0|127=>159|5=>5|n=>n,fun|n=>n⟩
theorem Tryz.laysM316:Go.Proofs.LaysM.n316 Tryz.prog Tryz.laysM316_ren:={
  mixed:=by kernel_rfl
  f316:=Tryz.func101.trans (congrArg some (by kernel_rfl))
  t0:=Tryz.underlying0
  a0:=Tryz.isAgg0
  z0:=Tryz.sizeOf0
  v0:=Tryz.zeroValue0
  t3:=Tryz.underlying3
  a3:=Tryz.isAgg3
  z3:=Tryz.sizeOf3
  v3:=Tryz.zeroValue3
  t4:=Tryz.underlying4
  a4:=Tryz.isAgg4
  z4:=Tryz.sizeOf4
  v4:=Tryz.zeroValue4
  t9:=Tryz.underlying9
  a9:=Tryz.isAgg9
  z9:=Tryz.sizeOf9
  v9:=Tryz.zeroValue9
  t37:=Tryz.underlying54
  a37:=Tryz.isAgg54
  z37:=Tryz.sizeOf54
  v37:=Tryz.zeroValue54
  t127:=Tryz.underlying159
  a127:=Tryz.isAgg159
  z127:=Tryz.sizeOf159
  v127:=Tryz.zeroValue159
  t5:=Tryz.underlying5
  a5:=Tryz.isAgg5
  z5:=Tryz.sizeOf5
  v5:=Tryz.zeroValue5
  i0:=by kernel_rfl
  i3:=by kernel_rfl
  i4:=by kernel_rfl
  i5:=by kernel_rfl
  i9:=by kernel_rfl
  i37:=by kernel_rfl
  i127:=by kernel_rfl }
open Go.RowKit in
theorem Tryz.stringslite_Clone(s:ByteArray)(w:World)(hlim:s.size≤281474976710656) :
    Calls Tryz.prog 101 #[.string s] w fun e w'=>e = .returned (.string s)∧Below w.heap.size w w':=Any.stringslite_Clone Tryz.laysM316 s w hlim
def Tryz.lays145_ren:Go.Shelf.Ren:=⟨fun|145=>100|220=>142|219=>173|217=>139|225=>206|224=>207|267=>208|266=>171|314=>227|n=>n,fun|9=>9|4=>4|59=>162|3=>3|5=>5|46=>107|146=>274|51=>246|n=>n,fun|1=>0|n=>n⟩
theorem Tryz.lays145:Go.Proofs.Lays.n145 Tryz.prog Tryz.lays145_ren:={
  mixed:=by kernel_rfl
  f145:=Tryz.func100.trans (congrArg some (by kernel_rfl))
  f217:=Tryz.func139.trans (congrArg some (by kernel_rfl))
  f219:=Tryz.func173.trans (congrArg some (by kernel_rfl))
  f220:=Tryz.func142.trans (congrArg some (by kernel_rfl))
  f224:=Tryz.func207.trans (congrArg some (by kernel_rfl))
  f225:=Tryz.func206.trans (congrArg some (by kernel_rfl))
  f266:=Tryz.func171.trans (congrArg some (by kernel_rfl))
  f267:=Tryz.func208.trans (congrArg some (by kernel_rfl))
  f314:=Tryz.func227.trans (congrArg some (by kernel_rfl))
  t3:=Tryz.underlying3
  a3:=Tryz.isAgg3
  z3:=Tryz.sizeOf3
  v3:=Tryz.zeroValue3
  t4:=Tryz.underlying4
  a4:=Tryz.isAgg4
  z4:=Tryz.sizeOf4
  v4:=Tryz.zeroValue4
  t5:=Tryz.underlying5
  a5:=Tryz.isAgg5
  z5:=Tryz.sizeOf5
  v5:=Tryz.zeroValue5
  t9:=Tryz.underlying9
  a9:=Tryz.isAgg9
  z9:=Tryz.sizeOf9
  v9:=Tryz.zeroValue9
  t46:=Tryz.underlying107
  a46:=Tryz.isAgg107
  z46:=Tryz.sizeOf107
  v46:=Tryz.zeroValue107
  t51:=Tryz.underlying246
  a51:=Tryz.isAgg246
  z51:=Tryz.sizeOf246
  v51:=Tryz.zeroValue246
  t59:=Tryz.underlying162
  a59:=Tryz.isAgg162
  z59:=Tryz.sizeOf162
  v59:=Tryz.zeroValue162
  t146:=Tryz.underlying274
  a146:=Tryz.isAgg274
  z146:=Tryz.sizeOf274
  v146:=Tryz.zeroValue274
  g1:=by kernel_rfl }
open Go.RowKit Go.Lib in
theorem Tryz.strings_Cut(s sep:ByteArray)(m:Int)(w:World)(hs:s.size<4294967281)(hm:w.cell? ⟨0,0,none⟩=some (.int .i64 m)) :
    Calls Tryz.prog 100 #[.string s,.string sep] w fun e w'=>e = .returned (.tuple #[.string ⟨(Lib.cut s.data.toList sep.data.toList).1.toArray⟩,.string ⟨(Lib.cut s.data.toList sep.data.toList).2.1.toArray⟩,.bool (Lib.cut s.data.toList sep.data.toList).2.2])∧∃n,w'=w.drewN n:=Any.strings_Cut Tryz.lays145 s sep m w hs hm
def Tryz.lays190_ren:Go.Shelf.Ren:=⟨fun|190=>131|125=>167|258=>166|128=>202|129=>203|302=>193|303=>194|304=>195|305=>196|306=>197|307=>198|308=>199|309=>200|310=>201|333=>220|329=>221|330=>222|334=>223|335=>224|336=>225|344=>232|n=>n,fun|31=>113|9=>9|3=>3|46=>107|0=>0|51=>246|53=>248|4=>4|183=>240|182=>239|131=>116|5=>5|218=>268|222=>272|228=>280|229=>281|n=>n,fun|n=>n⟩
theorem Tryz.lays190:Go.Proofs.Lays.n190 Tryz.prog Tryz.lays190_ren:={
  mixed:=by kernel_rfl
  f125:=Tryz.func167.trans (congrArg some (by kernel_rfl))
  f128:=Tryz.func202.trans (congrArg some (by kernel_rfl))
  f129:=Tryz.func203.trans (congrArg some (by kernel_rfl))
  f190:=Tryz.func131.trans (congrArg some (by kernel_rfl))
  f258:=Tryz.func166.trans (congrArg some (by kernel_rfl))
  f302:=Tryz.func193.trans (congrArg some (by kernel_rfl))
  f303:=Tryz.func194.trans (congrArg some (by kernel_rfl))
  f304:=Tryz.func195.trans (congrArg some (by kernel_rfl))
  f305:=Tryz.func196.trans (congrArg some (by kernel_rfl))
  f306:=Tryz.func197.trans (congrArg some (by kernel_rfl))
  f307:=Tryz.func198.trans (congrArg some (by kernel_rfl))
  f308:=Tryz.func199.trans (congrArg some (by kernel_rfl))
  f309:=Tryz.func200.trans (congrArg some (by kernel_rfl))
  f310:=Tryz.func201.trans (congrArg some (by kernel_rfl))
  f329:=Tryz.func221.trans (congrArg some (by kernel_rfl))
  f330:=Tryz.func222.trans (congrArg some (by kernel_rfl))
  f333:=Tryz.func220.trans (congrArg some (by kernel_rfl))
  f334:=Tryz.func223.trans (congrArg some (by kernel_rfl))
  f335:=Tryz.func224.trans (congrArg some (by kernel_rfl))
  f336:=Tryz.func225.trans (congrArg some (by kernel_rfl))
  f344:=Tryz.func232.trans (congrArg some (by kernel_rfl))
  t0:=Tryz.underlying0
  a0:=Tryz.isAgg0
  z0:=Tryz.sizeOf0
  v0:=Tryz.zeroValue0
  t3:=Tryz.underlying3
  a3:=Tryz.isAgg3
  z3:=Tryz.sizeOf3
  v3:=Tryz.zeroValue3
  t4:=Tryz.underlying4
  a4:=Tryz.isAgg4
  z4:=Tryz.sizeOf4
  v4:=Tryz.zeroValue4
  t5:=Tryz.underlying5
  a5:=Tryz.isAgg5
  z5:=Tryz.sizeOf5
  v5:=Tryz.zeroValue5
  t9:=Tryz.underlying9
  a9:=Tryz.isAgg9
  z9:=Tryz.sizeOf9
  v9:=Tryz.zeroValue9
  t31:=Tryz.underlying113
  a31:=Tryz.isAgg113
  z31:=Tryz.sizeOf113
  v31:=Tryz.zeroValue113
  t46:=Tryz.underlying107
  a46:=Tryz.isAgg107
  z46:=Tryz.sizeOf107
  v46:=Tryz.zeroValue107
  t51:=Tryz.underlying246
  a51:=Tryz.isAgg246
  z51:=Tryz.sizeOf246
  v51:=Tryz.zeroValue246
  t53:=Tryz.underlying248
  a53:=Tryz.isAgg248
  z53:=Tryz.sizeOf248
  v53:=Tryz.zeroValue248
  t131:=Tryz.underlying116
  a131:=Tryz.isAgg116
  z131:=Tryz.sizeOf116
  v131:=Tryz.zeroValue116
  t182:=Tryz.underlying239
  a182:=Tryz.isAgg239
  z182:=Tryz.sizeOf239
  v182:=Tryz.zeroValue239
  t183:=Tryz.underlying240
  a183:=Tryz.isAgg240
  z183:=Tryz.sizeOf240
  v183:=Tryz.zeroValue240
  t218:=Tryz.underlying268
  a218:=Tryz.isAgg268
  z218:=Tryz.sizeOf268
  v218:=Tryz.zeroValue268
  t222:=Tryz.underlying272
  a222:=Tryz.isAgg272
  z222:=Tryz.sizeOf272
  v222:=Tryz.zeroValue272
  t228:=Tryz.underlying280
  a228:=Tryz.isAgg280
  z228:=Tryz.sizeOf280
  v228:=Tryz.zeroValue280
  t229:=Tryz.underlying281
  a229:=Tryz.isAgg281
  z229:=Tryz.sizeOf281
  v229:=Tryz.zeroValue281 }
open Go.Sort Go.RowKit in
theorem Tryz.slices_Sort_string(blk off cap:Nat)(ss:List (List UInt8))(w:World)(hH:Holds encStr w blk off ss.toArray)(hblk:blk<w.heap.size)(hsz:ss.length<4611686018427387904) :
    Calls Tryz.prog 131 #[.slice (some ⟨blk,off,none⟩) ss.length cap] w fun e w' =>
      e = .returned (.tuple #[])∧∃n os,w'=grow (putRow encStr (Sort.ahead w n) blk off (ss.mergeSort fun x y=>decide (x≤y)).toArray) os:=Any.slices_Sort_string Tryz.lays190 blk off cap ss w hH hblk hsz
def Tryz.lays147_ren:Go.Shelf.Ren:=⟨fun|147=>105|221=>146|268=>175|138=>176|143=>177|195=>209|197=>210|218=>211|219=>173|260=>228|217=>139|225=>206|224=>207|267=>208|266=>171|314=>227|n=>n,fun|9=>9|3=>3|31=>113|4=>4|0=>0|105=>249|21=>21|5=>5|46=>107|119=>284|139=>287|138=>286|146=>274|51=>246|n=>n,fun|1=>0|3=>1|4=>2|n=>n⟩
theorem Tryz.lays147:Go.Proofs.Lays.n147 Tryz.prog Tryz.lays147_ren:={
  mixed:=by kernel_rfl
  f138:=Tryz.func176.trans (congrArg some (by kernel_rfl))
  f143:=Tryz.func177.trans (congrArg some (by kernel_rfl))
  f147:=Tryz.func105.trans (congrArg some (by kernel_rfl))
  f195:=Tryz.func209.trans (congrArg some (by kernel_rfl))
  f197:=Tryz.func210.trans (congrArg some (by kernel_rfl))
  f217:=Tryz.func139.trans (congrArg some (by kernel_rfl))
  f218:=Tryz.func211.trans (congrArg some (by kernel_rfl))
  f219:=Tryz.func173.trans (congrArg some (by kernel_rfl))
  f221:=Tryz.func146.trans (congrArg some (by kernel_rfl))
  f224:=Tryz.func207.trans (congrArg some (by kernel_rfl))
  f225:=Tryz.func206.trans (congrArg some (by kernel_rfl))
  f260:=Tryz.func228.trans (congrArg some (by kernel_rfl))
  f266:=Tryz.func171.trans (congrArg some (by kernel_rfl))
  f267:=Tryz.func208.trans (congrArg some (by kernel_rfl))
  f268:=Tryz.func175.trans (congrArg some (by kernel_rfl))
  f314:=Tryz.func227.trans (congrArg some (by kernel_rfl))
  t0:=Tryz.underlying0
  a0:=Tryz.isAgg0
  z0:=Tryz.sizeOf0
  v0:=Tryz.zeroValue0
  t3:=Tryz.underlying3
  a3:=Tryz.isAgg3
  z3:=Tryz.sizeOf3
  v3:=Tryz.zeroValue3
  t4:=Tryz.underlying4
  a4:=Tryz.isAgg4
  z4:=Tryz.sizeOf4
  v4:=Tryz.zeroValue4
  t5:=Tryz.underlying5
  a5:=Tryz.isAgg5
  z5:=Tryz.sizeOf5
  v5:=Tryz.zeroValue5
  t9:=Tryz.underlying9
  a9:=Tryz.isAgg9
  z9:=Tryz.sizeOf9
  v9:=Tryz.zeroValue9
  t21:=Tryz.underlying21
  a21:=Tryz.isAgg21
  z21:=Tryz.sizeOf21
  v21:=Tryz.zeroValue21
  t31:=Tryz.underlying113
  a31:=Tryz.isAgg113
  z31:=Tryz.sizeOf113
  v31:=Tryz.zeroValue113
  t46:=Tryz.underlying107
  a46:=Tryz.isAgg107
  z46:=Tryz.sizeOf107
  v46:=Tryz.zeroValue107
  t51:=Tryz.underlying246
  a51:=Tryz.isAgg246
  z51:=Tryz.sizeOf246
  v51:=Tryz.zeroValue246
  t105:=Tryz.underlying249
  a105:=Tryz.isAgg249
  z105:=Tryz.sizeOf249
  v105:=Tryz.zeroValue249
  t119:=Tryz.underlying284
  a119:=Tryz.isAgg284
  z119:=Tryz.sizeOf284
  t138:=Tryz.underlying286
  a138:=Tryz.isAgg286
  z138:=Tryz.sizeOf286
  v138:=Tryz.zeroValue286
  t139:=Tryz.underlying287
  a139:=Tryz.isAgg287
  z139:=Tryz.sizeOf287
  v139:=Tryz.zeroValue287
  t146:=Tryz.underlying274
  a146:=Tryz.isAgg274
  z146:=Tryz.sizeOf274
  v146:=Tryz.zeroValue274
  g1:=by kernel_rfl
  g3:=by kernel_rfl
  g4:=by kernel_rfl }
open Go.RowKit Go.Lib in
theorem Tryz.strings_SplitN(s sep:ByteArray)(n:Nat)(m:Int)(w:World)(hs:s.size<4294967281)(hm:w.cell? ⟨0,0,none⟩=some (.int .i64 m))(h1:1≤sep.size)(hn:1≤n)(hn63:n≤9223372036854775807) :
    Calls Tryz.prog 105 #[.string s,.string sep,.int .i64 n] w fun e w' =>
      e = .returned (.slice (some ⟨w.heap.size,0,none⟩) (Lib.splitB sep 0 (min n (s.size+1)-1) s).length (min n (s.size+1)))∧w'=w.alloc (.cells (Lib.cellsOf (Lib.splitB sep 0 (min n (s.size+1)-1) s) (min n (s.size+1))) 9):=Any.strings_SplitN Tryz.lays147 (by kernel_rfl) s sep n m w hs hm h1 hn hn63
def Tryz.lays194_ren:Go.Shelf.Ren:=⟨fun|194=>132|n=>n,fun|31=>113|9=>9|3=>3|4=>4|0=>0|n=>n,fun|n=>n⟩
theorem Tryz.lays194:Go.Proofs.Lays.n194 Tryz.prog Tryz.lays194_ren:={
  mixed:=by kernel_rfl
  f194:=Tryz.func132.trans (congrArg some (by kernel_rfl))
  t0:=Tryz.underlying0
  a0:=Tryz.isAgg0
  z0:=Tryz.sizeOf0
  v0:=Tryz.zeroValue0
  t3:=Tryz.underlying3
  a3:=Tryz.isAgg3
  z3:=Tryz.sizeOf3
  v3:=Tryz.zeroValue3
  t4:=Tryz.underlying4
  a4:=Tryz.isAgg4
  z4:=Tryz.sizeOf4
  v4:=Tryz.zeroValue4
  t9:=Tryz.underlying9
  a9:=Tryz.isAgg9
  z9:=Tryz.sizeOf9
  v9:=Tryz.zeroValue9
  t31:=Tryz.underlying113
  a31:=Tryz.isAgg113
  z31:=Tryz.sizeOf113
  v31:=Tryz.zeroValue113 }
open Go.RowKit Go.Lib Go.Sort in
theorem Tryz.slices_Compact_string(blk off cap:Nat)(zs:List (List UInt8))(w:World)(hH:Holds encStr w blk off zs.toArray)(hsz:zs.length≤9223372036854775807)(hcap:zs.length≤cap) :
    Calls Tryz.prog 132 #[.slice (some ⟨blk,off,none⟩) zs.length cap] w fun e w'=>e = .returned (.slice (some ⟨blk,off,none⟩) (Lib.compact zs).length cap)∧∃q,w'=putRow encStr (Sort.ahead w q) blk off (Lib.compact zs++List.replicate (zs.length-(Lib.compact zs).length) []).toArray:=Any.slices_Compact_string Tryz.lays194 blk off cap zs w hH hsz hcap
open Go.RowKit Go.Lib Go.Sort in
theorem Tryz.slices_Compact_string_empty(a:Option Addr)(cap:Nat)(w:World) :
    Calls Tryz.prog 132 #[.slice a 0 cap] w fun e w'=>e = .returned (.slice a 0 cap)∧w'=w:=Any.slices_Compact_string_empty Tryz.lays194 a cap w
open Go.RowKit Go.Sort in
theorem Tryz.slices_Sort_string_none(p:Option Addr)(cap:Nat)(w:World) :
    Calls Tryz.prog 131 #[.slice p 0 cap] w fun e w'=>e = .returned (.tuple #[])∧w'=w:=Any.slices_Sort_string_none Tryz.lays190 p cap w
end Go.Proofs
