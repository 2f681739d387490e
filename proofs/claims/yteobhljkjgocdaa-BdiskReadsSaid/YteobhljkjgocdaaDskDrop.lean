/- A disk that has been cloned and is then left: what is done to it leaves the clone and the reference as they are. -/
import Derived.Test.YteobhljkjgocdaaDskPlays
namespace Go.Proofs.Yteobhljkjgocdaa.dsk
open Go.ChangeShapes Go.WideShapes Go.ChangeAt Go.RowKit
open Go.Proofs.Yteobhljkjgocdaa.rows
open Go.Proofs.Yteobhljkjgocdaa.sec
set_option linter.unusedVariables false
set_option linter.unusedSimpArgs false

structure Three (CA : World → (Nat → Prop) → Value → St → Prop) (B : Nat) (w : World) (F F1 G : Nat → Prop) (d d1 : Value) (g : Nat) (st1 st : St) : Prop where
  old : CA w F d st1
  new : CA w F1 d1 st
  ref : RefIs w G g st
  a01 : ∀ k, F k → ¬ F1 k
  a0g : ∀ k, F k → ¬ G k
  a1g : ∀ k, F1 k → ¬ G k
  in0 : ∀ k, F k → B ≤ k ∧ k < w.heap.size
  in1 : ∀ k, F1 k → B ≤ k ∧ k < w.heap.size
  inG : ∀ k, G k → B ≤ k ∧ k < w.heap.size
theorem three_start {CA : World → (Nat → Prop) → Value → St → Prop} (D : DiskIs CA) {B : Nat} {w w1 : World} {F G : Nat → Prop} {d d1 : Value} {g : Nat} {st : St} (h : Both CA B w F G d g st) (hB : B ≤ w.heap.size) (hn : CA w1 (fun b => w.heap.size ≤ b ∧ b < w1.heap.size) d1 st) (hb : Below w.heap.size w w1) :
    Three CA B w1 F (fun b => w.heap.size ≤ b ∧ b < w1.heap.size) G d d1 g st st := by
  have hs := hb.size
  refine ⟨D.kept _ _ _ _ _ h.code (Keeps.of_below hb), hn, refIs_kept h.ref (Keeps.of_below hb), fun k hk hk2 => ?_, h.apart, fun k hk hk2 => ?_, fun k hk => ?_, fun k hk => ?_, fun k hk => ?_⟩
  · have := h.inF k hk; omega
  · have := h.inG k hk2; omega
  · have := h.inF k hk; omega
  · omega
  · have := h.inG k hk; omega
theorem three_next {CA : World → (Nat → Prop) → Value → St → Prop} (D : DiskIs CA) {B : Nat} {w w2 : World} {F F1 G : Nat → Prop} {d d1 : Value} {g : Nat} {st1 st2 st : St} (h : Three CA B w F F1 G d d1 g st1 st) (hB : B ≤ w.heap.size) (hc : CA w2 (grow F w w2) d st2) (ht : Touch F w w2) :
    Three CA B w2 (grow F w w2) F1 G d d1 g st2 st := by
  have hs := ht.size
  refine ⟨hc, D.kept _ _ _ _ _ h.new (ht.keeps fun k hk hk2 => h.a01 k hk2 hk), refIs_kept h.ref (ht.keeps fun k hk hk2 => h.a0g k hk2 hk), fun k hk hk2 => ?_, fun k hk hk2 => ?_, h.a1g, fun k hk => ?_, fun k hk => ?_, fun k hk => ?_⟩
  · rcases hk with hk | hk
    · exact h.a01 k hk hk2
    · have := h.in1 k hk2; omega
  · rcases hk with hk | hk
    · exact h.a0g k hk hk2
    · have := h.inG k hk2; omega
  · rcases hk with hk | hk
    · have := h.in0 k hk; omega
    · omega
  · have := h.in1 k hk; omega
  · have := h.inG k hk; omega
theorem three_later {CA : World → (Nat → Prop) → Value → St → Prop} (D : DiskIs CA) {B : Nat} {w w' : World} {F F1 G : Nat → Prop} {d d1 : Value} {g : Nat} {st1 st : St} (h : Three CA B w F F1 G d d1 g st1 st) (hb : Below w.heap.size w w') : Three CA B w' F F1 G d d1 g st1 st := by
  have hs := hb.size
  refine ⟨D.kept _ _ _ _ _ h.old (Keeps.of_below hb), D.kept _ _ _ _ _ h.new (Keeps.of_below hb), refIs_kept h.ref (Keeps.of_below hb), h.a01, h.a0g, h.a1g, fun k hk => ?_, fun k hk => ?_, fun k hk => ?_⟩
  · have := h.in0 k hk; omega
  · have := h.in1 k hk; omega
  · have := h.inG k hk; omega
theorem Three.both {CA : World → (Nat → Prop) → Value → St → Prop} {B : Nat} {w : World} {F F1 G : Nat → Prop} {d d1 : Value} {g : Nat} {st1 st : St} (h : Three CA B w F F1 G d d1 g st1 st) : Both CA B w F1 G d1 g st := ⟨h.new, h.ref, h.a1g, h.in1, h.inG⟩
/-! the states that it goes through -/
def s9 : List Int := 9 :: List.replicate 31 0
theorem sec_s9 : Sec s9 := ⟨by decide, by decide⟩
theorem wf0 : wf64 0 := WalkArith.wf_i64 (by omega)
theorem wf2 : wf64 2 := WalkArith.wf_i64 (by omega)
theorem good_bar {k : Nat} {st : St} (h : st.good k) (w : World) : (barrier st).2.good (k + 1) := by
  have := good_next (W := w) h ⟨3, 0, zero32, 0, 0, [], [], .slice none 0 0, .slice none 0 0⟩ ⟨sec_zero, WalkArith.wf_i64 (by decide), wf0, wf0, wf0, ⟨none, 0, rfl, rd_nil _ _⟩, ⟨none, 0, rfl, rd_nil _ _⟩, Nat.zero_le _, Nat.zero_le _, fun t ht => (by cases ht), fun t ht => (by cases ht)⟩ ⟨Nat.zero_le _, Nat.zero_le _⟩
  exact this
theorem good_nine {k : Nat} {st : St} (h : st.good k) (w : World) : (writeR st 0 s9 0 0).2.good (k + 1) := by
  have := good_next (W := w) h ⟨0, 0, s9, 0, 0, [], [], .slice none 0 0, .slice none 0 0⟩ ⟨sec_s9, wf0, wf0, wf0, wf0, ⟨none, 0, rfl, rd_nil _ _⟩, ⟨none, 0, rfl, rd_nil _ _⟩, Nat.zero_le _, Nat.zero_le _, fun t ht => (by cases ht), fun t ht => (by cases ht)⟩ ⟨Nat.zero_le _, Nat.zero_le _⟩
  exact this
theorem good_sync0 {k : Nat} {st : St} (h : st.good k) (w : World) : (syncR st [(0, 0)]).2.good (k + 1) := by
  have := good_next (W := w.alloc (.cells (tagC (0, 0)).toArray 37)) h ⟨2, 0, zero32, 0, 0, [(0, 0)], [], .slice (some ⟨w.heap.size, 0, none⟩) 1 1, .slice none 0 0⟩ ⟨sec_zero, wf2, wf0, wf0, wf0, ⟨_, _, rfl, by have := rd_laid w 37 2 (tagC (0, 0)) rfl; exact this⟩, ⟨none, 0, rfl, rd_nil _ _⟩, (show 1 ≤ maxLen by decide), Nat.zero_le _, fun t ht => (by rw [List.mem_singleton.1 ht]; exact ⟨wf0, wf0⟩), fun t ht => (by cases ht)⟩ ⟨(show 1 ≤ 50 by decide), Nat.zero_le _⟩
  exact this
end Go.Proofs.Yteobhljkjgocdaa.dsk
