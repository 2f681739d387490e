/- What the laws of layer 4 ask of the code's functions, and what the reference's give in the same words. -/
import Derived.Test.YtbahllmbfmdabaaSecRefC
import Derived.Test.YtbahllmbfmdabaaSecArgs
namespace Go.Proofs.Ytbahllmbfmdabaa.sec
open Go.ChangeShapes Go.WideShapes Go.ChangeAt Go.RowKit
open Go.Proofs.Ytbahllmbfmdabaa.rows
set_option linter.unusedVariables false

/-- a list in pieces of 32 -/
def chunks (l : List Int) (K : Nat) : List (List Int) := (List.range K).map fun i => (l.drop (i * 32)).take 32
theorem chunks_flat (l : List Int) (K : Nat) : (chunks l K).flatten = l.take (K * 32) := by
  induction K with
  | zero => simp [chunks]
  | succ K ih =>
    have e : chunks l (K + 1) = chunks l K ++ [(l.drop (K * 32)).take 32] := by simp [chunks, List.range_succ]
    rw [e, List.flatten_append, ih, Nat.succ_mul, List.take_add]
    simp
def Bytes (zs : List Int) : Prop := ∀ x ∈ zs, 0 ≤ x ∧ x < 256
theorem chunks_secs {l : List Int} {K : Nat} (hl : l.length = K * 32) (hb : Bytes l) : Secs (chunks l K) := by
  intro s hs
  obtain ⟨i, hi, rfl⟩ := List.mem_map.1 hs
  have hi := List.mem_range.1 hi
  refine ⟨by simp; omega, fun x hx => hb x (List.mem_of_mem_drop (List.mem_of_mem_take hx))⟩
/-- the bytes zs in sectors -/
def spr (zs : List Int) : List (List Int) := chunks (zs ++ List.replicate ((zs.length + 31) / 32 * 32 - zs.length) 0) ((zs.length + 31) / 32)
theorem spr_flat (zs : List Int) : (spr zs).flatten = zs ++ List.replicate ((zs.length + 31) / 32 * 32 - zs.length) 0 := by
  unfold spr
  rw [chunks_flat, List.take_of_length_le]
  simp; omega
theorem spr_secs {zs : List Int} (h : Bytes zs) : Secs (spr zs) := by
  refine chunks_secs (by simp; omega) ?_
  intro x hx
  rcases List.mem_append.1 hx with hx | hx
  · exact h x hx
  · have := List.eq_of_mem_replicate hx; omega
theorem spr_cells (zs : List Int) : cellsOf (spr zs) = part zs zs.length ((zs.length + 31) / 32) := by
  unfold cellsOf part
  rw [spr_flat, List.take_length]
theorem spr_len (zs : List Int) : (spr zs).length = (zs.length + 31) / 32 := by simp [spr, chunks]

/-- Gather's answer -/
def gOk (n : Nat) (k : Int) : Bool := decide (0 ≤ k ∧ k ≤ 32 * (n:Int))
def gOf (ss : List (List Int)) (n : Nat) (k : Int) : List Int := if gOk n k = true then ss.flatten.take k.toNat else []
def gN (n : Nat) (k : Int) : Nat := if gOk n k = true then k.toNat else 0
def GatherIs (f : Nat) : Prop := ∀ (p : Option Addr) (n c : Nat) (ss : List (List Int)) (k : Int) (w : World), (Lit.int .i64 k).wf = true → Secs ss → Rd w 32 (.slice p n c) n (cellsOf ss) → n ≤ 1000 →
  Calls Try.prog f #[.slice p n c, .int .i64 k] w fun e w' => ∃ p' c', e = .returned (.tuple #[.slice p' (gN n k) c', .bool (gOk n k)]) ∧ Rd w' 1 (.slice p' (gN n k) c') (gN n k) (u8s (gOf ss n k)) ∧ Below w.heap.size w w'
def SpreadIs (f : Nat) : Prop := ∀ (p : Option Addr) (n c : Nat) (zs : List Int) (w : World), Bytes zs → Rd w 1 (.slice p n c) n (u8s zs) → n ≤ 1000 →
  Calls Try.prog f #[.slice p n c] w fun e w' => ∃ p' c', e = .returned (.slice p' ((n + 31) / 32) c') ∧ Rd w' 32 (.slice p' ((n + 31) / 32) c') ((n + 31) / 32) (cellsOf (spr zs)) ∧ Below w.heap.size w w'
def UnlikeIs (f : Nat) : Prop := ∀ (p1 p2 : Option Addr) (n1 c1 n2 c2 : Nat) (xs ys : List (List Int)) (w : World), Secs xs → Secs ys → Rd w 32 (.slice p1 n1 c1) n1 (cellsOf xs) → Rd w 32 (.slice p2 n2 c2) n2 (cellsOf ys) → n1 ≤ 1000 → n2 ≤ 1000 →
  Calls Try.prog f #[.slice p1 n1 c1, .slice p2 n2 c2] w fun e w' => ∃ p' c', e = .returned (.slice p' (unl xs ys (max n1 n2)).length c') ∧ Rd w' 1 (.slice p' (unl xs ys (max n1 n2)).length c') (unl xs ys (max n1 n2)).length (i64s (unl xs ys (max n1 n2))) ∧ Below w.heap.size w w'

theorem rgather_is : GatherIs 7 := by
  intro p n c ss k w hk hs h1 l1
  by_cases h : 0 ≤ k ∧ k ≤ 32 * (n:Int)
  · have hg : gOk n k = true := by simp [gOk, h]
    obtain ⟨m, rfl⟩ := Int.eq_ofNat_of_zero_le h.1
    refine (rgather_yes p n c ss m w hs h1 (by omega) l1).mono ?_
    rintro e w' ⟨p', c', rfl, ho, hb⟩
    refine ⟨p', c', ?_, ?_, hb⟩
    · rw [gN, if_pos hg, hg]; rfl
    · rw [gN, if_pos hg, gOf, if_pos hg]; exact ho.rd
  · have hg : gOk n k = false := by simp only [gOk, h]; rfl
    have hg' : ¬ gOk n k = true := by rw [hg]; decide
    refine (rgather_no p n c k w hk (by omega) l1).mono ?_
    rintro e w' ⟨rfl, rfl⟩
    refine ⟨none, 0, ?_, ?_, Below.refl _ _⟩
    · rw [gN, if_neg hg', hg]
    · rw [gN, if_neg hg', gOf, if_neg hg']; exact rd_nil _ 1
theorem rspread_is : SpreadIs 10 := by
  intro p n c zs w hz h1 l1
  have hl : zs.length = n := by have := h1.cells; simpa [u8s] using this
  refine (rspread_any p n c zs w h1 l1).mono ?_
  rintro e w' ⟨p', c', rfl, ho, hb⟩
  refine ⟨p', c', rfl, ?_, hb⟩
  rw [spr_cells, hl]
  exact ho.rd
theorem runlike_is : UnlikeIs 13 := by
  intro p1 p2 n1 c1 n2 c2 xs ys w hx hy h1 h2 l1 l2
  refine (runlike_any p1 p2 n1 c1 n2 c2 xs ys w hx hy h1 h2 l1 l2).mono ?_
  rintro e w' ⟨p', n', c', rfl, rfl, ho, hb⟩
  exact ⟨p', c', rfl, ho.rd, hb⟩

theorem conv_rd {w : World} {v : Value} {n : Nat} {xs : List Int} (h : Rd w 1 v n (u8s xs)) : (convert 22 9 v).run Try.prog w = .ok (.string (strOfNums xs)) w := by
  rcases h with ⟨p, cap, rfl, rfl, hx, hp⟩ | ⟨b, off, cap, rfl, h2, h2a, h2b, h3, h4, h5⟩
  · have hx0 : xs = [] := by simpa [u8s] using hx
    subst hx0
    cases p with
    | none => exact run_convert_bytes_nil w 22 5 Try.underlying22 Try.underlying5 0 cap 9 Try.underlying9
    | some a =>
      rw [run_convert_bytes_string w 22 9 5 _ 0 cap Try.underlying22 Try.underlying5 Try.underlying9, run_bytesToString w _ 0 cap [] (by have := run_loadCells_list (P := Try.prog) w a [] (by simp); simpa using this), foldl_push_bytes]
      simp [strOfNums, ByteArray.empty, ByteArray.emptyWithCapacity]
      rfl
  · have hl : xs.length = n := by simpa [u8s] using h4
    refine run_convert_bytes_arg w 22 5 Try.underlying22 Try.underlying5 b off n cap xs hl (fun i hi => h5 i _ ?_) 9 Try.underlying9
    simp [u8s, List.getD, show i < xs.length by omega]

/-! the walk of SectorLists, over what the code's functions give -/
set_option maxHeartbeats 800000 in
theorem lists_of (hk : ∀ w, Calls Try.prog 5 #[] w fun e w' => e = .returned (.bool true) ∧ Below w.heap.size w w')
    (hg : GatherIs 6) (hs : SpreadIs 9) (hu : UnlikeIs 12)
    (p1 : Option Addr) (n1 c1 : Nat) (zs : List Int) (p2 : Option Addr) (n2 c2 : Nat) (xs : List (List Int)) (p3 : Option Addr) (n3 c3 : Nat) (ys : List (List Int)) (k : Int) (wk : (Lit.int .i64 k).wf = true) (w : World)
    (h1 : Rd w 1 (.slice p1 n1 c1) n1 (u8s zs)) (l1 : n1 ≤ maxLen) (b1 : Bytes zs) (h2 : Rd w 32 (.slice p2 n2 c2) n2 (cellsOf xs)) (l2 : n2 ≤ maxLen) (b2 : Secs xs) (h3 : Rd w 32 (.slice p3 n3 c3) n3 (cellsOf ys)) (l3 : n3 ≤ maxLen) (b3 : Secs ys) :
    Calls Try.prog 3 #[.slice p1 n1 c1, .slice p2 n2 c2, .slice p3 n3 c3, .int .i64 k] w fun e w' => e = .returned (.bool true) ∧ Below w.heap.size w w' := by
  have m1 : n1 ≤ 9223372036854775807 := l1
  have m2 : n2 ≤ 9223372036854775807 := l2
  have m3 : n3 ≤ 9223372036854775807 := l3
  have HK := Lib.hid hk
  by_cases t : 500 < n1 ∨ 40 < n2 ∨ 40 < n3
  · have t' : 500 < n1 ∨ (n1 ≤ 500 ∧ 40 < n2) ∨ (n1 ≤ 500 ∧ n2 ≤ 40 ∧ 40 < n3) := by omega
    clear t hk hg hs hu h1 h2 h3 l1 l2 l3
    rcases t' with t | ⟨t1, t⟩ | ⟨t1, t2, t⟩
    · have e1 : decide (500 < (n1:Int)) = true := by simp; omega
      go_enter Try.func3, Try.ntmps3
      go_wp2_with (go_at_call 5; refine (HK.out _).mono ?_; rintro e w' ⟨rfl, hb⟩)
      go_ret
      exact ⟨rfl, hb⟩
    · have e1 : decide (500 < (n1:Int)) = false := by simp; omega
      have e2 : decide (40 < (n2:Int)) = true := by simp; omega
      go_enter Try.func3, Try.ntmps3
      go_wp2_with (go_at_call 5; refine (HK.out _).mono ?_; rintro e w' ⟨rfl, hb⟩)
      go_ret
      exact ⟨rfl, hb⟩
    · have e1 : decide (500 < (n1:Int)) = false := by simp; omega
      have e2 : decide (40 < (n2:Int)) = false := by simp; omega
      have e3 : decide (40 < (n3:Int)) = true := by simp; omega
      go_enter Try.func3, Try.ntmps3
      go_wp2_with (go_at_call 5; refine (HK.out _).mono ?_; rintro e w' ⟨rfl, hb⟩)
      go_ret
      exact ⟨rfl, hb⟩
  · have e1 : decide (500 < (n1:Int)) = false := by simp; omega
    have e2 : decide (40 < (n2:Int)) = false := by simp; omega
    have e3 : decide (40 < (n3:Int)) = false := by simp; omega
    have HG := Lib.hid hg
    have HS := Lib.hid hs
    have HU := Lib.hid hu
    have H1 := Lib.hid h1
    have H2 := Lib.hid h2
    have H3 := Lib.hid h3
    have B1 := Lib.hid (spr_secs b1)
    have q1 : n1 ≤ 1000 := by omega
    have q2 : n2 ≤ 1000 := by omega
    have q3 : n3 ≤ 1000 := by omega
    have q4 : (n1 + 31) / 32 ≤ 1000 := by omega
    have HUL : Hid ((unl xs ys (max n2 n3)).length ≤ 1000) := Lib.hid (by have := unl_len xs ys (max n2 n3); omega)
    obtain ⟨U, hU⟩ : ∃ U, unl xs ys (max n2 n3) = U := ⟨_, rfl⟩
    obtain ⟨gn, hgn⟩ : ∃ g, gN n2 k = g := ⟨_, rfl⟩
    obtain ⟨gk, hgk⟩ : ∃ g, gOk n2 k = g := ⟨_, rfl⟩
    have HG1 := Lib.hid fun w hr => hg p2 n2 c2 xs k w wk b2 hr q2
    have HG2 := Lib.hid fun w hr => rgather_is p2 n2 c2 xs k w wk b2 hr q2
    have HU1 := Lib.hid fun w hr hr' => hu p2 p3 n2 c2 n3 c3 xs ys w b2 b3 hr hr' q2 q3
    have HU2 := Lib.hid fun w hr hr' => runlike_is p2 p3 n2 c2 n3 c3 xs ys w b2 b3 hr hr' q2 q3
    rw [hgn, hgk] at HG1 HG2
    rw [hU] at HU1 HU2 HUL
    obtain ⟨un, hun⟩ : ∃ u, U.length = u := ⟨_, rfl⟩
    rw [hun] at HU1 HU2 HUL
    clear hk hg hs hu h1 h2 h3 l1 l2 l3 t hgn hgk hU hun
    go_enter Try.func3, Try.ntmps3
    go_wp2_with (first
      | (go_at_call 6; refine (HG1.out _ H2.out).mono ?_; rintro e w1 ⟨pa, ca, rfl, hra, hb1⟩; have RA := Lib.hid hra; clear hra)
      | (go_at_call 7; refine (HG2.out _ (H2.out.later hb1)).mono ?_; rintro e w2 ⟨pb, cb, rfl, hrb, hb2⟩; have RB := Lib.hid hrb; clear hrb; have x2 := below_trans hb1 hb2)
      | (go_at_call 9; refine (HS.out _ _ _ zs _ b1 (H1.out.later x2) q1).mono ?_; rintro e w3 ⟨pc, cc, rfl, hrc, hb3⟩; have RC := Lib.hid hrc; clear hrc; have x3 := below_trans x2 hb3)
      | (go_at_call 10; refine (rspread_is _ _ _ zs _ b1 (H1.out.later x3) q1).mono ?_; rintro e w4 ⟨pd, cd, rfl, hrd, hb4⟩; have RD := Lib.hid hrd; clear hrd; have x4 := below_trans x3 hb4)
      | (go_at_call 8; refine (same_any _ _ _ _ _ (spr zs) _ B1.out (RC.out.later hb4) RD.out q4).mono ?_; rintro e w5 ⟨rfl, hb5⟩; have x5 := below_trans x4 hb5; have cva := conv_rd (RA.out.later (below_trans (below_trans (below_trans hb2 hb3) hb4) hb5)); have cvb := conv_rd (RB.out.later (below_trans (below_trans hb3 hb4) hb5)))
      | (go_at_call 12; refine (HU1.out _ (H2.out.later x5) (H3.out.later x5)).mono ?_; rintro e w6 ⟨pe, ce, rfl, hre, hb6⟩; have RE := Lib.hid hre; clear hre; have x6 := below_trans x5 hb6)
      | (go_at_call 13; refine (HU2.out _ (H2.out.later x6) (H3.out.later x6)).mono ?_; rintro e w7 ⟨pf, cf, rfl, hrf, hb7⟩; have RF := Lib.hid hrf; clear hrf; have x7 := below_trans x6 hb7)
      | (go_at_call 11; refine (ints_any _ _ _ _ _ _ _ (RE.out.later hb7) RF.out HUL.out).mono ?_; rintro e w8 ⟨rfl, hb8⟩; have x8 := below_trans x7 hb8)
      | (go_at_call 5; refine (HK.out _).mono ?_; rintro e w9 ⟨rfl, hb9⟩))
    go_ret
    exact ⟨rfl, below_trans x8 hb9⟩
end Go.Proofs.Ytbahllmbfmdabaa.sec
