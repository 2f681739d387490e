/- What PathBack wants, part 6. -/
import Derived.Test.YtpfpibmnhnjpmaaDoorPathBackB
import Derived.Great.BuildSlice
/- What the reference's Barrier and Fail give. -/
namespace Go.Proofs.YtpfpibmnhnjpmaaDoor.dsk
set_option maxRecDepth 100000
open Go.ChangeShapes Go.WideShapes Go.ChangeAt Go.RowKit
open Go.Proofs.YtpfpibmnhnjpmaaDoor.rows
open Go.Proofs.YtpfpibmnhnjpmaaDoor.sec
set_option linter.unusedVariables false
set_option linter.unusedSimpArgs false

def w0 : Wr := ⟨0, zero32, 0, 0, 0⟩
/-- few of everything -/
structure St.few (st : St) : Prop where
  ss : Secs st.safe
  ws : ∀ x ∈ st.wait, Sec x.s
  es : ∀ e ∈ st.log, Sec e.2.1.s
  ts : ∀ e ∈ st.log, e.2.2.length ≤ 1000
  wn : st.wait.length ≤ 900
  ln : st.log.length ≤ 900
  bn : st.bad.length ≤ 900
  ep0 : 0 ≤ st.ep
  ep1 : st.ep ≤ 900
  as0 : 0 ≤ st.asked
  as1 : st.asked ≤ 900
theorem wr_ones (x : Wr) : ∀ u ∈ x.c, u.oneCell' = true := by
  intro u hu
  rcases List.mem_cons.1 hu with rfl | hu
  · rfl
  · rcases List.mem_append.1 hu with hu | hu
    · exact one_ints .u8 _ u hu
    · simp only [List.mem_cons, List.not_mem_nil, or_false] at hu
      rcases hu with rfl | rfl | rfl <;> rfl
end Go.Proofs.YtpfpibmnhnjpmaaDoor.dsk
