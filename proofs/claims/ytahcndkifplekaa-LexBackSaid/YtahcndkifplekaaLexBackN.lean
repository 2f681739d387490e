/- What LexBack wants, part 14. -/
import Derived.Test.YtahcndkifplekaaLexBackJ
import Derived.Test.YtahcndkifplekaaLexBackM
import Derived.Lib.BufferWrite
set_option linter.unusedVariables false
set_option linter.unusedSimpArgs false
namespace Go.Proofs.Ytahcndkifplekaa
namespace ly
set_option maxRecDepth 100000
open Go.ChangeShapes Go.WideShapes Go.ChangeAt Go.RowKit
open rows
open sec
theorem conv_rd1 {w : World} {p : Option Addr} {n c : Nat} {xs : List Int} (h : Rd w 1 (.slice p n c) n (u8s xs)) : (convert 56 9 (.slice p n c)).run Try.prog w = .ok (.string (strOfNums xs)) w := by
 rcases h with ⟨p', cap', h1, rfl, hx, hp⟩ | ⟨b, off, cap, h1, h2, h2a, h2b, h3, h4, h5⟩
 ·cases h1
  obtain rfl : xs = [] := by cases xs with | nil => rfl | cons a t => simp [u8s] at hx
  cases p with
  | none => exact run_convert_bytes_nil w 56 5 Try.underlying56 Try.underlying5 0 c 9 Try.underlying9
  | some a =>
   rw [run_convert_bytes_string w 56 9 5 _ 0 c Try.underlying56 Try.underlying5 Try.underlying9, run_bytesToString w _ 0 c [] (by have := run_loadCells_list (P := Try.prog) w a [] (by simp); simpa using this), foldl_push_bytes]
   simp [strOfNums, ByteArray.empty, ByteArray.emptyWithCapacity]
   rfl
 ·cases h1
  have hl : xs.length = n := by simpa [u8s] using h4
  exact run_convert_bytes_arg w 56 5 Try.underlying56 Try.underlying5 b off n c xs hl (fun i hi => h5 i _ (by simp [u8s, List.getD, show i < xs.length by omega])) 9 Try.underlying9
end ly
end Go.Proofs.Ytahcndkifplekaa
