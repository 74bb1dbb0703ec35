/- Lemmas. -/
import Derived.Test.YtplpmeednhcjkaaGreatDoorA0
import Derived.Shelf.Strings.Search2
import Derived.Shelf.LaysM
import Derived.Shelf.Strings.Shaped
import Derived.Test.YtplpmeednhcjkaaGreatDoorProg
namespace Go.Proofs
open Go.Shelf
def Tryz.lays219_ren:Go.Shelf.Ren:=⟨fun|219=>89|217=>74|225=>111|224=>112|267=>113|266=>104|314=>131|n=>n,fun|9=>9|3=>3|4=>4|5=>5|46=>93|146=>102|51=>101|n=>n,fun|1=>1|n=>n⟩
theorem Tryz.lays219:Go.Proofs.Lays.n219 Tryz.prog Tryz.lays219_ren:={
 mixed:=by kernel_rfl
 f217:=Tryz.func74.trans (Ya some (by kernel_rfl))
 f219:=Tryz.func89.trans (Ya some (by kernel_rfl))
 f224:=Tryz.func112.trans (Ya some (by kernel_rfl))
 f225:=Tryz.func111.trans (Ya some (by kernel_rfl))
 f266:=Tryz.func104.trans (Ya some (by kernel_rfl))
 f267:=Tryz.func113.trans (Ya some (by kernel_rfl))
 f314:=Tryz.func131.trans (Ya some (by kernel_rfl))
 t3:=Tryz.underlying3
 a3:=Tryz.isAgg3
 z3:=Tryz.sizeOf3
 v3:=Tryz.zeroValue3
 t4:=Tryz.underlying4
 a4:=Tryz.isAgg4
 z4:=Tryz.sizeOf4
 v4:=Tryz.zeroValue4
 t5:=Tryz.underlying5
 a5:=Tryz.isAgg5
 z5:=Tryz.sizeOf5
 v5:=Tryz.zeroValue5
 t9:=Tryz.underlying9
 a9:=Tryz.isAgg9
 z9:=Tryz.sizeOf9
 v9:=Tryz.zeroValue9
 t46:=Tryz.underlying93
 a46:=Tryz.isAgg93
 z46:=Tryz.sizeOf93
 v46:=Tryz.zeroValue93
 t51:=Tryz.underlying101
 a51:=Tryz.isAgg101
 z51:=Tryz.sizeOf101
 v51:=Tryz.zeroValue101
 t146:=Tryz.underlying102
 a146:=Tryz.isAgg102
 z146:=Tryz.sizeOf102
 v146:=Tryz.zeroValue102
 g1:=by kernel_rfl }
open Go.RowKit Go.Lib in
theorem Tryz.stringslite_Index (s sub:ByteArray) (m:Int) (w:World) (hs:s.size<4294967281) (hm:w.cell? ⟨1,0,none⟩=some (.int .i64 m)) :
  Calls Tryz.prog 89 #[.string s,.string sub] w λe w'=>e=.returned (.int .i64 (Lib.index s.data.toList sub.data.toList))/\w'=w:=Any.stringslite_Index Tryz.lays219 s sub m w hs hm
def Tryz.laysM219_ren:Go.Shelf.Ren:=⟨fun|219=>89|217=>74|225=>111|224=>112|267=>113|266=>104|314=>131|n=>n,fun|9=>9|3=>3|4=>4|5=>5|46=>93|146=>102|51=>101|n=>n,fun|1=>1|n=>n⟩
theorem Tryz.laysM219:Go.Proofs.LaysM.n219 Tryz.prog Tryz.laysM219_ren:={
 mixed:=by kernel_rfl
 f217:=Tryz.func74.trans (Ya some (by kernel_rfl))
 f219:=Tryz.func89.trans (Ya some (by kernel_rfl))
 f224:=Tryz.func112.trans (Ya some (by kernel_rfl))
 f225:=Tryz.func111.trans (Ya some (by kernel_rfl))
 f266:=Tryz.func104.trans (Ya some (by kernel_rfl))
 f267:=Tryz.func113.trans (Ya some (by kernel_rfl))
 f314:=Tryz.func131.trans (Ya some (by kernel_rfl))
 t3:=Tryz.underlying3
 a3:=Tryz.isAgg3
 z3:=Tryz.sizeOf3
 v3:=Tryz.zeroValue3
 t4:=Tryz.underlying4
 a4:=Tryz.isAgg4
 z4:=Tryz.sizeOf4
 v4:=Tryz.zeroValue4
 t5:=Tryz.underlying5
 a5:=Tryz.isAgg5
 z5:=Tryz.sizeOf5
 v5:=Tryz.zeroValue5
 t9:=Tryz.underlying9
 a9:=Tryz.isAgg9
 z9:=Tryz.sizeOf9
 v9:=Tryz.zeroValue9
 t46:=Tryz.underlying93
 a46:=Tryz.isAgg93
 z46:=Tryz.sizeOf93
 v46:=Tryz.zeroValue93
 t51:=Tryz.underlying101
 a51:=Tryz.isAgg101
 z51:=Tryz.sizeOf101
 v51:=Tryz.zeroValue101
 t146:=Tryz.underlying102
 a146:=Tryz.isAgg102
 z146:=Tryz.sizeOf102
 v146:=Tryz.zeroValue102
 g1:=by kernel_rfl
 i3:=by kernel_rfl
 i4:=by kernel_rfl
 i5:=by kernel_rfl
 i9:=by kernel_rfl
 i46:=by kernel_rfl
 i51:=by kernel_rfl
 i146:=by kernel_rfl
 m1:=by kernel_rfl
 s1_3:=λw h=>Go.Proofs.cell_of_shapedOpen_int (zero:=#[.int .i64 0]) (t:=3) h (Ha (by kernel_rfl)) (by kernel_rfl) rfl (by kernel_rfl) (by kernel_rfl) Tryz.underlying3 }
