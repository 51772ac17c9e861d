/- At every list of bytes the law FnCmds returns true: a command is read from its bytes, and what is read has just those; and the program answers as the model. -/
import Derived.Test.YtcphnnibhlmajaaRows
import Derived.WalkKit
import Derived.ProofKit
import Derived.OpenShut
import Derived.ShutString
import Derived.ChangeOld
import Derived.Below
import Derived.Test.YtcphnnibhlmajaaDrawCmS
import Derived.Test.YtcphnnibhlmajaaICmd
import Derived.Test.YtcphnnibhlmajaaCmLaws
namespace Go.Proofs.Ytcphnnibhlmajaa.fnCmds
open Go.ChangeShapes Go.WideShapes Go.ChangeAt Go.RowKit
open Go.ChangeMaps (open_string shut_string)
set_option linter.unusedVariables false

theorem own : ownKnob Try.prog.godebug = none := by kernel_rfl
theorem laidOut : laidOutB Try.prog = true := by kernel_rfl

def IsRow (k : IntKind) (w : World) (a : Option Addr) (len cap : Nat) (zs : List Int) : Prop :=
  (a = none ∧ len = 0 ∧ cap = 0 ∧ zs = []) ∨
  ∃ x, a = some x ∧ len ≤ cap ∧ cap ≤ maxLen ∧ zs.length = cap ∧ (∀ i, i < zs.length → w.cell? (x.add i) = some (.int k (zs.getD i 0))) ∧ ∀ n ∈ zs, (Lit.int k n).wf = true

set_option maxRecDepth 20000 in
set_option maxHeartbeats 20000000 in
theorem walk (a0 : Option Addr) (len0 cap0 : Nat) (z0 : List Int) (w : World) (w0 : IsRow .u8 w a0 len0 cap0 z0) :
    Calls Try.prog 3 #[.slice a0 len0 cap0] w fun e w' => e = .returned (.bool true) ∧ Below w.heap.size w w' := by
  by_cases hbig : (4096 : Int) < (len0 : Int)
  · go_enter Try.func3, Try.ntmps3
    go_wp2_with (go_at_call 9; refine (big_any _ _ _ _).mono ?_; rintro e w' ⟨rfl, hw'⟩; subst w')
    go_ret
    exact ⟨rfl, Below.refl _ _⟩
  · have HC : Hid (CodeOk w w.heap.size (.slice a0 len0 cap0)) := codeOk_row w0 (by omega)
    clear w0
    have HS : Hid (Sta w w []) := Sta.start w
    go_enter Try.func3, Try.ntmps3
    go_wp2_with fail
    refine (big_any _ _ _ _).mono ?_
    rintro e w' ⟨rfl, hw'⟩; subst w'
    go_wp2_with fail
    refine (drawShowC_any w.heap.size _ _ (HC.out.below HS.out.below) HS.out.below.size).mono ?_
    rintro e w1 ⟨c, rfl, b1⟩
    replace HS : Hid (Sta w w1 []) := HS.out.next b1
    clear b1
    replace HS : Hid (Sta w (w1.alloc (.cells #[.int .i64 c.o, .int .i64 c.p, .int .i64 c.a, .int .i64 c.b, .int .i64 c.k] 25)) [Blk w1.heap.size 25 (cmA c)]) := HS.out.box 25 (cmA c)
    have ci := fun wx => ishowC_any c wx
    have css := fun wx => sshowC_any c wx
    have cio := fun wx => icmdok_any c wx
    have cso := fun wx => scmdok_any c wx
    have cic := fun wx => ichg_any c wx
    have csc := fun wx => schg_any c wx
    have HOK : Hid (c.ok = true → showCS c = showC c ∧ codeC (showC c) = 0 ∧ readC (showC c) = c ∧ (showC c).length = 8) := fun h => ⟨by simp [showCS, h], readC_show h⟩
    have HNO : Hid (c.ok = false → showCS c = []) := fun h => by simp [showCS, h]
    have cr := fun wx => ireadC_any (showCS c) wx (by unfold showCS; split <;> simp [showC, front])
    obtain ⟨s, hs⟩ : ∃ s, s = showCS c := ⟨_, rfl⟩
    obtain ⟨ok, hok⟩ : ∃ ok, ok = c.ok := ⟨_, rfl⟩
    obtain ⟨ch, hch⟩ : ∃ ch, ch = c.chg := ⟨_, rfl⟩
    simp only [← hs] at ci css cr
    simp only [← hok] at cio cso
    simp only [← hch] at cic csc
    rw [← hok, ← hs] at HOK HNO
    unfold S CV cmA at ci css
    unfold S CV cmA at cr
    unfold CV cmA at cio cso cic csc
    have Hcr : Hid _ := cr
    clear cr hs hok hch
    unfold CV cmA
    go_wp2_with fail
    refine (ci _).mono ?_
    rintro e w2 ⟨rfl, b2⟩
    replace HS : Hid (Sta w w2 [Blk w1.heap.size 25 (cmA c)]) := HS.out.next b2
    clear b2
    clear ci
    go_wp2_with fail
    refine (drawReadC_any w.heap.size _ _ (HC.out.below HS.out.below) HS.out.below.size).mono ?_
    rintro e w3 ⟨t, rfl, ht, b3⟩
    replace HS : Hid (Sta w w3 [Blk w1.heap.size 25 (cmA c)]) := HS.out.next b3
    clear b3
    have cit := fun wx => ireadC_any t wx (by omega)
    have cst := fun wx => sreadC_any t wx (by omega)
    have HT := codeC_cases t
    have cix := fun wx => ishowC_any (readC t) wx
    obtain ⟨x, hx⟩ : ∃ x, x = readC t := ⟨_, rfl⟩
    obtain ⟨k, hk⟩ : ∃ k, k = codeC t := ⟨_, rfl⟩
    rw [← hx, ← hk] at HT
    simp only [← hx] at cix
    simp only [← hx, ← hk] at cit cst
    unfold S CV cmA at cit cst cix
    unfold S
    have HHT : Hid _ := HT
    have Hcix : Hid _ := cix
    clear hx hk HT cix
    go_wp2_with fail
    refine (cit _).mono ?_
    rintro e w4 ⟨rfl, b4⟩
    replace HS : Hid (Sta w w4 [Blk w1.heap.size 25 (cmA c)]) := HS.out.next b4
    clear b4
    replace HS : Hid (Sta w (w4.alloc (.cells #[.int .i64 x.o, .int .i64 x.p, .int .i64 x.a, .int .i64 x.b, .int .i64 x.k] 25)) [Blk w4.heap.size 25 (cmA x), Blk w1.heap.size 25 (cmA c)]) := HS.out.box 25 (cmA x)
    clear cit
    go_wp2_with fail
    refine (cst _).mono ?_
    rintro e w5 ⟨rfl, b5⟩
    replace HS : Hid (Sta w w5 [Blk w4.heap.size 25 (cmA x), Blk w1.heap.size 25 (cmA c)]) := HS.out.next b5
    clear b5
    replace HS : Hid (Sta w (w5.alloc (.cells #[.int .i64 x.o, .int .i64 x.p, .int .i64 x.a, .int .i64 x.b, .int .i64 x.k] 25)) [Blk w5.heap.size 25 (cmA x), Blk w4.heap.size 25 (cmA x), Blk w1.heap.size 25 (cmA c)]) := HS.out.box 25 (cmA x)
    clear cst
    obtain ⟨w6, hw6⟩ : ∃ w6, w6 = (w5.alloc (.cells #[.int .i64 x.o, .int .i64 x.p, .int .i64 x.a, .int .i64 x.b, .int .i64 x.k] 25)) := ⟨_, rfl⟩
    rw [← hw6] at HS
    have ka0 : w6.cell? ⟨w5.heap.size, 0, none⟩ = some (.int .i64 x.o) := CmB.cell (show CmB w6 w5.heap.size 25 x from HS.out.get 0 rfl) 0 rfl
    have ka1 : w6.cell? ⟨w5.heap.size, 1, none⟩ = some (.int .i64 x.p) := CmB.cell (show CmB w6 w5.heap.size 25 x from HS.out.get 0 rfl) 1 rfl
    have ka2 : w6.cell? ⟨w5.heap.size, 2, none⟩ = some (.int .i64 x.a) := CmB.cell (show CmB w6 w5.heap.size 25 x from HS.out.get 0 rfl) 2 rfl
    have ka3 : w6.cell? ⟨w5.heap.size, 3, none⟩ = some (.int .i64 x.b) := CmB.cell (show CmB w6 w5.heap.size 25 x from HS.out.get 0 rfl) 3 rfl
    have ka4 : w6.cell? ⟨w5.heap.size, 4, none⟩ = some (.int .i64 x.k) := CmB.cell (show CmB w6 w5.heap.size 25 x from HS.out.get 0 rfl) 4 rfl
    have kb0 : w6.cell? ⟨w4.heap.size, 0, none⟩ = some (.int .i64 x.o) := CmB.cell (show CmB w6 w4.heap.size 25 x from HS.out.get 1 rfl) 0 rfl
    have kb1 : w6.cell? ⟨w4.heap.size, 1, none⟩ = some (.int .i64 x.p) := CmB.cell (show CmB w6 w4.heap.size 25 x from HS.out.get 1 rfl) 1 rfl
    have kb2 : w6.cell? ⟨w4.heap.size, 2, none⟩ = some (.int .i64 x.a) := CmB.cell (show CmB w6 w4.heap.size 25 x from HS.out.get 1 rfl) 2 rfl
    have kb3 : w6.cell? ⟨w4.heap.size, 3, none⟩ = some (.int .i64 x.b) := CmB.cell (show CmB w6 w4.heap.size 25 x from HS.out.get 1 rfl) 3 rfl
    have kb4 : w6.cell? ⟨w4.heap.size, 4, none⟩ = some (.int .i64 x.k) := CmB.cell (show CmB w6 w4.heap.size 25 x from HS.out.get 1 rfl) 4 rfl
    have kc0 : w6.cell? ⟨w1.heap.size, 0, none⟩ = some (.int .i64 c.o) := CmB.cell (show CmB w6 w1.heap.size 25 c from HS.out.get 2 rfl) 0 rfl
    have kc1 : w6.cell? ⟨w1.heap.size, 1, none⟩ = some (.int .i64 c.p) := CmB.cell (show CmB w6 w1.heap.size 25 c from HS.out.get 2 rfl) 1 rfl
    have kc2 : w6.cell? ⟨w1.heap.size, 2, none⟩ = some (.int .i64 c.a) := CmB.cell (show CmB w6 w1.heap.size 25 c from HS.out.get 2 rfl) 2 rfl
    have kc3 : w6.cell? ⟨w1.heap.size, 3, none⟩ = some (.int .i64 c.b) := CmB.cell (show CmB w6 w1.heap.size 25 c from HS.out.get 2 rfl) 3 rfl
    have kc4 : w6.cell? ⟨w1.heap.size, 4, none⟩ = some (.int .i64 c.k) := CmB.cell (show CmB w6 w1.heap.size 25 c from HS.out.get 2 rfl) 4 rfl
    have Hw6 : Hid _ := hw6
    clear hw6
    go_wp2_with fail
    rw [← Hw6.out]
    go_region_held3 (fun w' => (w'.cell? ⟨w5.heap.size, 0, none⟩ = some (.int .i64 x.o) ∧ w'.cell? ⟨w5.heap.size, 1, none⟩ = some (.int .i64 x.p) ∧ w'.cell? ⟨w5.heap.size, 2, none⟩ = some (.int .i64 x.a) ∧ w'.cell? ⟨w5.heap.size, 3, none⟩ = some (.int .i64 x.b) ∧ w'.cell? ⟨w5.heap.size, 4, none⟩ = some (.int .i64 x.k)) ∧ (w'.cell? ⟨w4.heap.size, 0, none⟩ = some (.int .i64 x.o) ∧ w'.cell? ⟨w4.heap.size, 1, none⟩ = some (.int .i64 x.p) ∧ w'.cell? ⟨w4.heap.size, 2, none⟩ = some (.int .i64 x.a) ∧ w'.cell? ⟨w4.heap.size, 3, none⟩ = some (.int .i64 x.b) ∧ w'.cell? ⟨w4.heap.size, 4, none⟩ = some (.int .i64 x.k)) ∧ (w'.cell? ⟨w1.heap.size, 0, none⟩ = some (.int .i64 c.o) ∧ w'.cell? ⟨w1.heap.size, 1, none⟩ = some (.int .i64 c.p) ∧ w'.cell? ⟨w1.heap.size, 2, none⟩ = some (.int .i64 c.a) ∧ w'.cell? ⟨w1.heap.size, 3, none⟩ = some (.int .i64 c.b) ∧ w'.cell? ⟨w1.heap.size, 4, none⟩ = some (.int .i64 c.k))) (go_keep)
      (first
      | (go_at_call 15; refine (css _).mono ?_; rintro e wA ⟨rfl, bA⟩; have HA : Hid _ := HS.out.drew1.next bA; clear bA; have kA0 : wA.cell? ⟨w1.heap.size, 0, none⟩ = some (.int .i64 c.o) := CmB.cell (show CmB wA w1.heap.size 25 c from HA.out.get 2 rfl) 0 rfl; have kA1 : wA.cell? ⟨w1.heap.size, 1, none⟩ = some (.int .i64 c.p) := CmB.cell (show CmB wA w1.heap.size 25 c from HA.out.get 2 rfl) 1 rfl; have kA2 : wA.cell? ⟨w1.heap.size, 2, none⟩ = some (.int .i64 c.a) := CmB.cell (show CmB wA w1.heap.size 25 c from HA.out.get 2 rfl) 2 rfl; have kA3 : wA.cell? ⟨w1.heap.size, 3, none⟩ = some (.int .i64 c.b) := CmB.cell (show CmB wA w1.heap.size 25 c from HA.out.get 2 rfl) 3 rfl; have kA4 : wA.cell? ⟨w1.heap.size, 4, none⟩ = some (.int .i64 c.k) := CmB.cell (show CmB wA w1.heap.size 25 c from HA.out.get 2 rfl) 4 rfl; have mA0 : wA.cell? ⟨w4.heap.size, 0, none⟩ = some (.int .i64 x.o) := CmB.cell (show CmB wA w4.heap.size 25 x from HA.out.get 1 rfl) 0 rfl; have mA1 : wA.cell? ⟨w4.heap.size, 1, none⟩ = some (.int .i64 x.p) := CmB.cell (show CmB wA w4.heap.size 25 x from HA.out.get 1 rfl) 1 rfl; have mA2 : wA.cell? ⟨w4.heap.size, 2, none⟩ = some (.int .i64 x.a) := CmB.cell (show CmB wA w4.heap.size 25 x from HA.out.get 1 rfl) 2 rfl; have mA3 : wA.cell? ⟨w4.heap.size, 3, none⟩ = some (.int .i64 x.b) := CmB.cell (show CmB wA w4.heap.size 25 x from HA.out.get 1 rfl) 3 rfl; have mA4 : wA.cell? ⟨w4.heap.size, 4, none⟩ = some (.int .i64 x.k) := CmB.cell (show CmB wA w4.heap.size 25 x from HA.out.get 1 rfl) 4 rfl; have nA0 : wA.cell? ⟨w5.heap.size, 0, none⟩ = some (.int .i64 x.o) := CmB.cell (show CmB wA w5.heap.size 25 x from HA.out.get 0 rfl) 0 rfl; have nA1 : wA.cell? ⟨w5.heap.size, 1, none⟩ = some (.int .i64 x.p) := CmB.cell (show CmB wA w5.heap.size 25 x from HA.out.get 0 rfl) 1 rfl; have nA2 : wA.cell? ⟨w5.heap.size, 2, none⟩ = some (.int .i64 x.a) := CmB.cell (show CmB wA w5.heap.size 25 x from HA.out.get 0 rfl) 2 rfl; have nA3 : wA.cell? ⟨w5.heap.size, 3, none⟩ = some (.int .i64 x.b) := CmB.cell (show CmB wA w5.heap.size 25 x from HA.out.get 0 rfl) 3 rfl; have nA4 : wA.cell? ⟨w5.heap.size, 4, none⟩ = some (.int .i64 x.k) := CmB.cell (show CmB wA w5.heap.size 25 x from HA.out.get 0 rfl) 4 rfl)
      | (go_at_call 16; refine (cio _).mono ?_; rintro e wB ⟨rfl, bB⟩; have HB : Hid _ := HA.out.next bB; clear bB; have kB0 : wB.cell? ⟨w1.heap.size, 0, none⟩ = some (.int .i64 c.o) := CmB.cell (show CmB wB w1.heap.size 25 c from HB.out.get 2 rfl) 0 rfl; have kB1 : wB.cell? ⟨w1.heap.size, 1, none⟩ = some (.int .i64 c.p) := CmB.cell (show CmB wB w1.heap.size 25 c from HB.out.get 2 rfl) 1 rfl; have kB2 : wB.cell? ⟨w1.heap.size, 2, none⟩ = some (.int .i64 c.a) := CmB.cell (show CmB wB w1.heap.size 25 c from HB.out.get 2 rfl) 2 rfl; have kB3 : wB.cell? ⟨w1.heap.size, 3, none⟩ = some (.int .i64 c.b) := CmB.cell (show CmB wB w1.heap.size 25 c from HB.out.get 2 rfl) 3 rfl; have kB4 : wB.cell? ⟨w1.heap.size, 4, none⟩ = some (.int .i64 c.k) := CmB.cell (show CmB wB w1.heap.size 25 c from HB.out.get 2 rfl) 4 rfl; have mB0 : wB.cell? ⟨w4.heap.size, 0, none⟩ = some (.int .i64 x.o) := CmB.cell (show CmB wB w4.heap.size 25 x from HB.out.get 1 rfl) 0 rfl; have mB1 : wB.cell? ⟨w4.heap.size, 1, none⟩ = some (.int .i64 x.p) := CmB.cell (show CmB wB w4.heap.size 25 x from HB.out.get 1 rfl) 1 rfl; have mB2 : wB.cell? ⟨w4.heap.size, 2, none⟩ = some (.int .i64 x.a) := CmB.cell (show CmB wB w4.heap.size 25 x from HB.out.get 1 rfl) 2 rfl; have mB3 : wB.cell? ⟨w4.heap.size, 3, none⟩ = some (.int .i64 x.b) := CmB.cell (show CmB wB w4.heap.size 25 x from HB.out.get 1 rfl) 3 rfl; have mB4 : wB.cell? ⟨w4.heap.size, 4, none⟩ = some (.int .i64 x.k) := CmB.cell (show CmB wB w4.heap.size 25 x from HB.out.get 1 rfl) 4 rfl; have nB0 : wB.cell? ⟨w5.heap.size, 0, none⟩ = some (.int .i64 x.o) := CmB.cell (show CmB wB w5.heap.size 25 x from HB.out.get 0 rfl) 0 rfl; have nB1 : wB.cell? ⟨w5.heap.size, 1, none⟩ = some (.int .i64 x.p) := CmB.cell (show CmB wB w5.heap.size 25 x from HB.out.get 0 rfl) 1 rfl; have nB2 : wB.cell? ⟨w5.heap.size, 2, none⟩ = some (.int .i64 x.a) := CmB.cell (show CmB wB w5.heap.size 25 x from HB.out.get 0 rfl) 2 rfl; have nB3 : wB.cell? ⟨w5.heap.size, 3, none⟩ = some (.int .i64 x.b) := CmB.cell (show CmB wB w5.heap.size 25 x from HB.out.get 0 rfl) 3 rfl; have nB4 : wB.cell? ⟨w5.heap.size, 4, none⟩ = some (.int .i64 x.k) := CmB.cell (show CmB wB w5.heap.size 25 x from HB.out.get 0 rfl) 4 rfl)
      | (go_at_call 17; refine (cso _).mono ?_; rintro e wC ⟨rfl, bC⟩; have HC1 : Hid _ := HB.out.next bC; clear bC; have kC0 : wC.cell? ⟨w1.heap.size, 0, none⟩ = some (.int .i64 c.o) := CmB.cell (show CmB wC w1.heap.size 25 c from HC1.out.get 2 rfl) 0 rfl; have kC1 : wC.cell? ⟨w1.heap.size, 1, none⟩ = some (.int .i64 c.p) := CmB.cell (show CmB wC w1.heap.size 25 c from HC1.out.get 2 rfl) 1 rfl; have kC2 : wC.cell? ⟨w1.heap.size, 2, none⟩ = some (.int .i64 c.a) := CmB.cell (show CmB wC w1.heap.size 25 c from HC1.out.get 2 rfl) 2 rfl; have kC3 : wC.cell? ⟨w1.heap.size, 3, none⟩ = some (.int .i64 c.b) := CmB.cell (show CmB wC w1.heap.size 25 c from HC1.out.get 2 rfl) 3 rfl; have kC4 : wC.cell? ⟨w1.heap.size, 4, none⟩ = some (.int .i64 c.k) := CmB.cell (show CmB wC w1.heap.size 25 c from HC1.out.get 2 rfl) 4 rfl; have mC0 : wC.cell? ⟨w4.heap.size, 0, none⟩ = some (.int .i64 x.o) := CmB.cell (show CmB wC w4.heap.size 25 x from HC1.out.get 1 rfl) 0 rfl; have mC1 : wC.cell? ⟨w4.heap.size, 1, none⟩ = some (.int .i64 x.p) := CmB.cell (show CmB wC w4.heap.size 25 x from HC1.out.get 1 rfl) 1 rfl; have mC2 : wC.cell? ⟨w4.heap.size, 2, none⟩ = some (.int .i64 x.a) := CmB.cell (show CmB wC w4.heap.size 25 x from HC1.out.get 1 rfl) 2 rfl; have mC3 : wC.cell? ⟨w4.heap.size, 3, none⟩ = some (.int .i64 x.b) := CmB.cell (show CmB wC w4.heap.size 25 x from HC1.out.get 1 rfl) 3 rfl; have mC4 : wC.cell? ⟨w4.heap.size, 4, none⟩ = some (.int .i64 x.k) := CmB.cell (show CmB wC w4.heap.size 25 x from HC1.out.get 1 rfl) 4 rfl; have nC0 : wC.cell? ⟨w5.heap.size, 0, none⟩ = some (.int .i64 x.o) := CmB.cell (show CmB wC w5.heap.size 25 x from HC1.out.get 0 rfl) 0 rfl; have nC1 : wC.cell? ⟨w5.heap.size, 1, none⟩ = some (.int .i64 x.p) := CmB.cell (show CmB wC w5.heap.size 25 x from HC1.out.get 0 rfl) 1 rfl; have nC2 : wC.cell? ⟨w5.heap.size, 2, none⟩ = some (.int .i64 x.a) := CmB.cell (show CmB wC w5.heap.size 25 x from HC1.out.get 0 rfl) 2 rfl; have nC3 : wC.cell? ⟨w5.heap.size, 3, none⟩ = some (.int .i64 x.b) := CmB.cell (show CmB wC w5.heap.size 25 x from HC1.out.get 0 rfl) 3 rfl; have nC4 : wC.cell? ⟨w5.heap.size, 4, none⟩ = some (.int .i64 x.k) := CmB.cell (show CmB wC w5.heap.size 25 x from HC1.out.get 0 rfl) 4 rfl)
      | (go_at_call 18; refine (cic _).mono ?_; rintro e wD ⟨rfl, bD⟩; have HD : Hid _ := HC1.out.next bD; clear bD; have kD0 : wD.cell? ⟨w1.heap.size, 0, none⟩ = some (.int .i64 c.o) := CmB.cell (show CmB wD w1.heap.size 25 c from HD.out.get 2 rfl) 0 rfl; have kD1 : wD.cell? ⟨w1.heap.size, 1, none⟩ = some (.int .i64 c.p) := CmB.cell (show CmB wD w1.heap.size 25 c from HD.out.get 2 rfl) 1 rfl; have kD2 : wD.cell? ⟨w1.heap.size, 2, none⟩ = some (.int .i64 c.a) := CmB.cell (show CmB wD w1.heap.size 25 c from HD.out.get 2 rfl) 2 rfl; have kD3 : wD.cell? ⟨w1.heap.size, 3, none⟩ = some (.int .i64 c.b) := CmB.cell (show CmB wD w1.heap.size 25 c from HD.out.get 2 rfl) 3 rfl; have kD4 : wD.cell? ⟨w1.heap.size, 4, none⟩ = some (.int .i64 c.k) := CmB.cell (show CmB wD w1.heap.size 25 c from HD.out.get 2 rfl) 4 rfl; have mD0 : wD.cell? ⟨w4.heap.size, 0, none⟩ = some (.int .i64 x.o) := CmB.cell (show CmB wD w4.heap.size 25 x from HD.out.get 1 rfl) 0 rfl; have mD1 : wD.cell? ⟨w4.heap.size, 1, none⟩ = some (.int .i64 x.p) := CmB.cell (show CmB wD w4.heap.size 25 x from HD.out.get 1 rfl) 1 rfl; have mD2 : wD.cell? ⟨w4.heap.size, 2, none⟩ = some (.int .i64 x.a) := CmB.cell (show CmB wD w4.heap.size 25 x from HD.out.get 1 rfl) 2 rfl; have mD3 : wD.cell? ⟨w4.heap.size, 3, none⟩ = some (.int .i64 x.b) := CmB.cell (show CmB wD w4.heap.size 25 x from HD.out.get 1 rfl) 3 rfl; have mD4 : wD.cell? ⟨w4.heap.size, 4, none⟩ = some (.int .i64 x.k) := CmB.cell (show CmB wD w4.heap.size 25 x from HD.out.get 1 rfl) 4 rfl; have nD0 : wD.cell? ⟨w5.heap.size, 0, none⟩ = some (.int .i64 x.o) := CmB.cell (show CmB wD w5.heap.size 25 x from HD.out.get 0 rfl) 0 rfl; have nD1 : wD.cell? ⟨w5.heap.size, 1, none⟩ = some (.int .i64 x.p) := CmB.cell (show CmB wD w5.heap.size 25 x from HD.out.get 0 rfl) 1 rfl; have nD2 : wD.cell? ⟨w5.heap.size, 2, none⟩ = some (.int .i64 x.a) := CmB.cell (show CmB wD w5.heap.size 25 x from HD.out.get 0 rfl) 2 rfl; have nD3 : wD.cell? ⟨w5.heap.size, 3, none⟩ = some (.int .i64 x.b) := CmB.cell (show CmB wD w5.heap.size 25 x from HD.out.get 0 rfl) 3 rfl; have nD4 : wD.cell? ⟨w5.heap.size, 4, none⟩ = some (.int .i64 x.k) := CmB.cell (show CmB wD w5.heap.size 25 x from HD.out.get 0 rfl) 4 rfl)
      | (go_at_call 19; refine (csc _).mono ?_; rintro e wE ⟨rfl, bE⟩; have HE : Hid _ := HD.out.next bE; clear bE; have kE0 : wE.cell? ⟨w1.heap.size, 0, none⟩ = some (.int .i64 c.o) := CmB.cell (show CmB wE w1.heap.size 25 c from HE.out.get 2 rfl) 0 rfl; have kE1 : wE.cell? ⟨w1.heap.size, 1, none⟩ = some (.int .i64 c.p) := CmB.cell (show CmB wE w1.heap.size 25 c from HE.out.get 2 rfl) 1 rfl; have kE2 : wE.cell? ⟨w1.heap.size, 2, none⟩ = some (.int .i64 c.a) := CmB.cell (show CmB wE w1.heap.size 25 c from HE.out.get 2 rfl) 2 rfl; have kE3 : wE.cell? ⟨w1.heap.size, 3, none⟩ = some (.int .i64 c.b) := CmB.cell (show CmB wE w1.heap.size 25 c from HE.out.get 2 rfl) 3 rfl; have kE4 : wE.cell? ⟨w1.heap.size, 4, none⟩ = some (.int .i64 c.k) := CmB.cell (show CmB wE w1.heap.size 25 c from HE.out.get 2 rfl) 4 rfl; have mE0 : wE.cell? ⟨w4.heap.size, 0, none⟩ = some (.int .i64 x.o) := CmB.cell (show CmB wE w4.heap.size 25 x from HE.out.get 1 rfl) 0 rfl; have mE1 : wE.cell? ⟨w4.heap.size, 1, none⟩ = some (.int .i64 x.p) := CmB.cell (show CmB wE w4.heap.size 25 x from HE.out.get 1 rfl) 1 rfl; have mE2 : wE.cell? ⟨w4.heap.size, 2, none⟩ = some (.int .i64 x.a) := CmB.cell (show CmB wE w4.heap.size 25 x from HE.out.get 1 rfl) 2 rfl; have mE3 : wE.cell? ⟨w4.heap.size, 3, none⟩ = some (.int .i64 x.b) := CmB.cell (show CmB wE w4.heap.size 25 x from HE.out.get 1 rfl) 3 rfl; have mE4 : wE.cell? ⟨w4.heap.size, 4, none⟩ = some (.int .i64 x.k) := CmB.cell (show CmB wE w4.heap.size 25 x from HE.out.get 1 rfl) 4 rfl; have nE0 : wE.cell? ⟨w5.heap.size, 0, none⟩ = some (.int .i64 x.o) := CmB.cell (show CmB wE w5.heap.size 25 x from HE.out.get 0 rfl) 0 rfl; have nE1 : wE.cell? ⟨w5.heap.size, 1, none⟩ = some (.int .i64 x.p) := CmB.cell (show CmB wE w5.heap.size 25 x from HE.out.get 0 rfl) 1 rfl; have nE2 : wE.cell? ⟨w5.heap.size, 2, none⟩ = some (.int .i64 x.a) := CmB.cell (show CmB wE w5.heap.size 25 x from HE.out.get 0 rfl) 2 rfl; have nE3 : wE.cell? ⟨w5.heap.size, 3, none⟩ = some (.int .i64 x.b) := CmB.cell (show CmB wE w5.heap.size 25 x from HE.out.get 0 rfl) 3 rfl; have nE4 : wE.cell? ⟨w5.heap.size, 4, none⟩ = some (.int .i64 x.k) := CmB.cell (show CmB wE w5.heap.size 25 x from HE.out.get 0 rfl) 4 rfl))
    replace HS : Hid (Sta w wE [Blk w5.heap.size 25 (cmA x), Blk w4.heap.size 25 (cmA x), Blk w1.heap.size 25 (cmA c)]) := HE.out
    clear HA HB HC1 HD HE Hw6 css cso cic csc
    clear ka0 ka1 ka2 ka3 ka4
    clear kb0 kb1 kb2 kb3 kb4
    clear kc0 kc1 kc2 kc3 kc4
    clear kA0 kA1 kA2 kA3 kA4
    clear kB0 kB1 kB2 kB3 kB4
    clear kC0 kC1 kC2 kC3 kC4
    clear kD0 kD1 kD2 kD3 kD4
    clear kE0 kE1 kE2 kE3 kE4
    clear mA0 mA1 mA2 mA3 mA4
    clear mB0 mB1 mB2 mB3 mB4
    clear mC0 mC1 mC2 mC3 mC4
    clear mD0 mD1 mD2 mD3 mD4
    clear mE0 mE1 mE2 mE3 mE4
    clear nA0 nA1 nA2 nA3 nA4
    clear nB0 nB1 nB2 nB3 nB4
    clear nC0 nC1 nC2 nC3 nC4
    clear nD0 nD1 nD2 nD3 nD4
    clear nE0 nE1 nE2 nE3 nE4
    have cix := Hcix.out
    have cr := Hcr.out
    clear Hcix Hcr
    have htz : (⟨t.toArray⟩ : ByteArray).size = t.length := rfl
    obtain ⟨h8, rfl, rfl⟩ | ⟨h8, rfl, rfl⟩ | ⟨h8, rfl, hsh⟩ | ⟨h8, hk3, hk5, rfl⟩ := HHT.out
    · clear cix HHT
      have h8' : (t.length : Int) < 8 := by omega
      have kx0 : wE.cell? ⟨w4.heap.size, 0, none⟩ = some (.int .i64 Cm.zero.o) := CmB.cell (show CmB wE w4.heap.size 25 Cm.zero from HS.out.get 1 rfl) 0 rfl
      have kx1 : wE.cell? ⟨w4.heap.size, 1, none⟩ = some (.int .i64 Cm.zero.p) := CmB.cell (show CmB wE w4.heap.size 25 Cm.zero from HS.out.get 1 rfl) 1 rfl
      have kx2 : wE.cell? ⟨w4.heap.size, 2, none⟩ = some (.int .i64 Cm.zero.a) := CmB.cell (show CmB wE w4.heap.size 25 Cm.zero from HS.out.get 1 rfl) 2 rfl
      have kx3 : wE.cell? ⟨w4.heap.size, 3, none⟩ = some (.int .i64 Cm.zero.b) := CmB.cell (show CmB wE w4.heap.size 25 Cm.zero from HS.out.get 1 rfl) 3 rfl
      have kx4 : wE.cell? ⟨w4.heap.size, 4, none⟩ = some (.int .i64 Cm.zero.k) := CmB.cell (show CmB wE w4.heap.size 25 Cm.zero from HS.out.get 1 rfl) 4 rfl
      unfold Cm.zero at kx0 kx1 kx2 kx3 kx4
      dsimp only at kx0 kx1 kx2 kx3 kx4
      cases ok
      · obtain rfl : s = [] := HNO.out rfl
        clear HOK HNO cr
        have kq0 : wE.cell? ⟨w1.heap.size, 0, none⟩ = some (.int .i64 c.o) := CmB.cell (show CmB wE w1.heap.size 25 c from HS.out.get 2 rfl) 0 rfl
        have kq1 : wE.cell? ⟨w1.heap.size, 1, none⟩ = some (.int .i64 c.p) := CmB.cell (show CmB wE w1.heap.size 25 c from HS.out.get 2 rfl) 1 rfl
        have kq2 : wE.cell? ⟨w1.heap.size, 2, none⟩ = some (.int .i64 c.a) := CmB.cell (show CmB wE w1.heap.size 25 c from HS.out.get 2 rfl) 2 rfl
        have kq3 : wE.cell? ⟨w1.heap.size, 3, none⟩ = some (.int .i64 c.b) := CmB.cell (show CmB wE w1.heap.size 25 c from HS.out.get 2 rfl) 3 rfl
        have kq4 : wE.cell? ⟨w1.heap.size, 4, none⟩ = some (.int .i64 c.k) := CmB.cell (show CmB wE w1.heap.size 25 c from HS.out.get 2 rfl) 4 rfl
        go_wp2_with fail
        refine (cio _).mono ?_
        rintro e wF ⟨rfl, bF⟩
        clear kq0 kq1 kq2 kq3 kq4
        replace HS : Hid (Sta w wF [Blk w5.heap.size 25 (cmA Cm.zero), Blk w4.heap.size 25 (cmA Cm.zero), Blk w1.heap.size 25 (cmA c)]) := HS.out.next bF
        clear bF
        go_wp2_with fail
        go_ret
        exact ⟨rfl, HS.out.below⟩
      · obtain ⟨e1, e2, e3, e4⟩ := HOK.out rfl
        rw [← e1] at e2 e3 e4
        simp only [e2, e3] at cr
        have hse : s.isEmpty = false := by cases s with | nil => simp at e4 | cons => rfl
        have hs8 : (s.length : Int) = 8 := by omega
        have hsz : (⟨s.toArray⟩ : ByteArray).size = s.length := rfl
        clear HOK HNO cio e1 e2 e3 e4
        go_wp2_with fail
        refine (cr _).mono ?_
        rintro e wF ⟨rfl, bF⟩
        replace HS : Hid (Sta w wF [Blk w5.heap.size 25 (cmA Cm.zero), Blk w4.heap.size 25 (cmA Cm.zero), Blk w1.heap.size 25 (cmA c)]) := HS.out.next bF
        clear bF
        replace HS : Hid (Sta w (wF.alloc (.cells #[.int .i64 c.o, .int .i64 c.p, .int .i64 c.a, .int .i64 c.b, .int .i64 c.k] 25)) [Blk wF.heap.size 25 (cmA c), Blk w5.heap.size 25 (cmA Cm.zero), Blk w4.heap.size 25 (cmA Cm.zero), Blk w1.heap.size 25 (cmA c)]) := HS.out.box 25 (cmA c)
        clear cr
        have kz0 : (wF.alloc (.cells #[.int .i64 c.o, .int .i64 c.p, .int .i64 c.a, .int .i64 c.b, .int .i64 c.k] 25)).cell? ⟨w1.heap.size, 0, none⟩ = some (.int .i64 c.o) := CmB.cell (show CmB (wF.alloc (.cells #[.int .i64 c.o, .int .i64 c.p, .int .i64 c.a, .int .i64 c.b, .int .i64 c.k] 25)) w1.heap.size 25 c from HS.out.get 3 rfl) 0 rfl
        have kz1 : (wF.alloc (.cells #[.int .i64 c.o, .int .i64 c.p, .int .i64 c.a, .int .i64 c.b, .int .i64 c.k] 25)).cell? ⟨w1.heap.size, 1, none⟩ = some (.int .i64 c.p) := CmB.cell (show CmB (wF.alloc (.cells #[.int .i64 c.o, .int .i64 c.p, .int .i64 c.a, .int .i64 c.b, .int .i64 c.k] 25)) w1.heap.size 25 c from HS.out.get 3 rfl) 1 rfl
        have kz2 : (wF.alloc (.cells #[.int .i64 c.o, .int .i64 c.p, .int .i64 c.a, .int .i64 c.b, .int .i64 c.k] 25)).cell? ⟨w1.heap.size, 2, none⟩ = some (.int .i64 c.a) := CmB.cell (show CmB (wF.alloc (.cells #[.int .i64 c.o, .int .i64 c.p, .int .i64 c.a, .int .i64 c.b, .int .i64 c.k] 25)) w1.heap.size 25 c from HS.out.get 3 rfl) 2 rfl
        have kz3 : (wF.alloc (.cells #[.int .i64 c.o, .int .i64 c.p, .int .i64 c.a, .int .i64 c.b, .int .i64 c.k] 25)).cell? ⟨w1.heap.size, 3, none⟩ = some (.int .i64 c.b) := CmB.cell (show CmB (wF.alloc (.cells #[.int .i64 c.o, .int .i64 c.p, .int .i64 c.a, .int .i64 c.b, .int .i64 c.k] 25)) w1.heap.size 25 c from HS.out.get 3 rfl) 3 rfl
        have kz4 : (wF.alloc (.cells #[.int .i64 c.o, .int .i64 c.p, .int .i64 c.a, .int .i64 c.b, .int .i64 c.k] 25)).cell? ⟨w1.heap.size, 4, none⟩ = some (.int .i64 c.k) := CmB.cell (show CmB (wF.alloc (.cells #[.int .i64 c.o, .int .i64 c.p, .int .i64 c.a, .int .i64 c.b, .int .i64 c.k] 25)) w1.heap.size 25 c from HS.out.get 3 rfl) 4 rfl
        go_wp2
        go_ret
        exact ⟨rfl, HS.out.below⟩
    · clear cix HHT
      have h8' : 8 < (t.length : Int) := by omega
      have kx0 : wE.cell? ⟨w4.heap.size, 0, none⟩ = some (.int .i64 Cm.zero.o) := CmB.cell (show CmB wE w4.heap.size 25 Cm.zero from HS.out.get 1 rfl) 0 rfl
      have kx1 : wE.cell? ⟨w4.heap.size, 1, none⟩ = some (.int .i64 Cm.zero.p) := CmB.cell (show CmB wE w4.heap.size 25 Cm.zero from HS.out.get 1 rfl) 1 rfl
      have kx2 : wE.cell? ⟨w4.heap.size, 2, none⟩ = some (.int .i64 Cm.zero.a) := CmB.cell (show CmB wE w4.heap.size 25 Cm.zero from HS.out.get 1 rfl) 2 rfl
      have kx3 : wE.cell? ⟨w4.heap.size, 3, none⟩ = some (.int .i64 Cm.zero.b) := CmB.cell (show CmB wE w4.heap.size 25 Cm.zero from HS.out.get 1 rfl) 3 rfl
      have kx4 : wE.cell? ⟨w4.heap.size, 4, none⟩ = some (.int .i64 Cm.zero.k) := CmB.cell (show CmB wE w4.heap.size 25 Cm.zero from HS.out.get 1 rfl) 4 rfl
      unfold Cm.zero at kx0 kx1 kx2 kx3 kx4
      dsimp only at kx0 kx1 kx2 kx3 kx4
      cases ok
      · obtain rfl : s = [] := HNO.out rfl
        clear HOK HNO cr
        have kq0 : wE.cell? ⟨w1.heap.size, 0, none⟩ = some (.int .i64 c.o) := CmB.cell (show CmB wE w1.heap.size 25 c from HS.out.get 2 rfl) 0 rfl
        have kq1 : wE.cell? ⟨w1.heap.size, 1, none⟩ = some (.int .i64 c.p) := CmB.cell (show CmB wE w1.heap.size 25 c from HS.out.get 2 rfl) 1 rfl
        have kq2 : wE.cell? ⟨w1.heap.size, 2, none⟩ = some (.int .i64 c.a) := CmB.cell (show CmB wE w1.heap.size 25 c from HS.out.get 2 rfl) 2 rfl
        have kq3 : wE.cell? ⟨w1.heap.size, 3, none⟩ = some (.int .i64 c.b) := CmB.cell (show CmB wE w1.heap.size 25 c from HS.out.get 2 rfl) 3 rfl
        have kq4 : wE.cell? ⟨w1.heap.size, 4, none⟩ = some (.int .i64 c.k) := CmB.cell (show CmB wE w1.heap.size 25 c from HS.out.get 2 rfl) 4 rfl
        go_wp2_with fail
        refine (cio _).mono ?_
        rintro e wF ⟨rfl, bF⟩
        clear kq0 kq1 kq2 kq3 kq4
        replace HS : Hid (Sta w wF [Blk w5.heap.size 25 (cmA Cm.zero), Blk w4.heap.size 25 (cmA Cm.zero), Blk w1.heap.size 25 (cmA c)]) := HS.out.next bF
        clear bF
        go_wp2_with fail
        go_ret
        exact ⟨rfl, HS.out.below⟩
      · obtain ⟨e1, e2, e3, e4⟩ := HOK.out rfl
        rw [← e1] at e2 e3 e4
        simp only [e2, e3] at cr
        have hse : s.isEmpty = false := by cases s with | nil => simp at e4 | cons => rfl
        have hs8 : (s.length : Int) = 8 := by omega
        have hsz : (⟨s.toArray⟩ : ByteArray).size = s.length := rfl
        clear HOK HNO cio e1 e2 e3 e4
        go_wp2_with fail
        refine (cr _).mono ?_
        rintro e wF ⟨rfl, bF⟩
        replace HS : Hid (Sta w wF [Blk w5.heap.size 25 (cmA Cm.zero), Blk w4.heap.size 25 (cmA Cm.zero), Blk w1.heap.size 25 (cmA c)]) := HS.out.next bF
        clear bF
        replace HS : Hid (Sta w (wF.alloc (.cells #[.int .i64 c.o, .int .i64 c.p, .int .i64 c.a, .int .i64 c.b, .int .i64 c.k] 25)) [Blk wF.heap.size 25 (cmA c), Blk w5.heap.size 25 (cmA Cm.zero), Blk w4.heap.size 25 (cmA Cm.zero), Blk w1.heap.size 25 (cmA c)]) := HS.out.box 25 (cmA c)
        clear cr
        have kz0 : (wF.alloc (.cells #[.int .i64 c.o, .int .i64 c.p, .int .i64 c.a, .int .i64 c.b, .int .i64 c.k] 25)).cell? ⟨w1.heap.size, 0, none⟩ = some (.int .i64 c.o) := CmB.cell (show CmB (wF.alloc (.cells #[.int .i64 c.o, .int .i64 c.p, .int .i64 c.a, .int .i64 c.b, .int .i64 c.k] 25)) w1.heap.size 25 c from HS.out.get 3 rfl) 0 rfl
        have kz1 : (wF.alloc (.cells #[.int .i64 c.o, .int .i64 c.p, .int .i64 c.a, .int .i64 c.b, .int .i64 c.k] 25)).cell? ⟨w1.heap.size, 1, none⟩ = some (.int .i64 c.p) := CmB.cell (show CmB (wF.alloc (.cells #[.int .i64 c.o, .int .i64 c.p, .int .i64 c.a, .int .i64 c.b, .int .i64 c.k] 25)) w1.heap.size 25 c from HS.out.get 3 rfl) 1 rfl
        have kz2 : (wF.alloc (.cells #[.int .i64 c.o, .int .i64 c.p, .int .i64 c.a, .int .i64 c.b, .int .i64 c.k] 25)).cell? ⟨w1.heap.size, 2, none⟩ = some (.int .i64 c.a) := CmB.cell (show CmB (wF.alloc (.cells #[.int .i64 c.o, .int .i64 c.p, .int .i64 c.a, .int .i64 c.b, .int .i64 c.k] 25)) w1.heap.size 25 c from HS.out.get 3 rfl) 2 rfl
        have kz3 : (wF.alloc (.cells #[.int .i64 c.o, .int .i64 c.p, .int .i64 c.a, .int .i64 c.b, .int .i64 c.k] 25)).cell? ⟨w1.heap.size, 3, none⟩ = some (.int .i64 c.b) := CmB.cell (show CmB (wF.alloc (.cells #[.int .i64 c.o, .int .i64 c.p, .int .i64 c.a, .int .i64 c.b, .int .i64 c.k] 25)) w1.heap.size 25 c from HS.out.get 3 rfl) 3 rfl
        have kz4 : (wF.alloc (.cells #[.int .i64 c.o, .int .i64 c.p, .int .i64 c.a, .int .i64 c.b, .int .i64 c.k] 25)).cell? ⟨w1.heap.size, 4, none⟩ = some (.int .i64 c.k) := CmB.cell (show CmB (wF.alloc (.cells #[.int .i64 c.o, .int .i64 c.p, .int .i64 c.a, .int .i64 c.b, .int .i64 c.k] 25)) w1.heap.size 25 c from HS.out.get 3 rfl) 4 rfl
        go_wp2
        go_ret
        exact ⟨rfl, HS.out.below⟩
    · have h8' : (t.length : Int) = 8 := by omega
      rw [hsh] at cix
      clear hsh HHT h8
      have kx0 : wE.cell? ⟨w4.heap.size, 0, none⟩ = some (.int .i64 x.o) := CmB.cell (show CmB wE w4.heap.size 25 x from HS.out.get 1 rfl) 0 rfl
      have kx1 : wE.cell? ⟨w4.heap.size, 1, none⟩ = some (.int .i64 x.p) := CmB.cell (show CmB wE w4.heap.size 25 x from HS.out.get 1 rfl) 1 rfl
      have kx2 : wE.cell? ⟨w4.heap.size, 2, none⟩ = some (.int .i64 x.a) := CmB.cell (show CmB wE w4.heap.size 25 x from HS.out.get 1 rfl) 2 rfl
      have kx3 : wE.cell? ⟨w4.heap.size, 3, none⟩ = some (.int .i64 x.b) := CmB.cell (show CmB wE w4.heap.size 25 x from HS.out.get 1 rfl) 3 rfl
      have kx4 : wE.cell? ⟨w4.heap.size, 4, none⟩ = some (.int .i64 x.k) := CmB.cell (show CmB wE w4.heap.size 25 x from HS.out.get 1 rfl) 4 rfl
      go_wp2_with fail
      refine (cix _).mono ?_
      rintro e wG ⟨rfl, bG⟩
      clear kx0 kx1 kx2 kx3 kx4
      replace HS : Hid (Sta w wG [Blk w5.heap.size 25 (cmA x), Blk w4.heap.size 25 (cmA x), Blk w1.heap.size 25 (cmA c)]) := HS.out.next bG
      clear bG
      clear cix
      cases ok
      · obtain rfl : s = [] := HNO.out rfl
        clear HOK HNO cr
        have kq0 : wG.cell? ⟨w1.heap.size, 0, none⟩ = some (.int .i64 c.o) := CmB.cell (show CmB wG w1.heap.size 25 c from HS.out.get 2 rfl) 0 rfl
        have kq1 : wG.cell? ⟨w1.heap.size, 1, none⟩ = some (.int .i64 c.p) := CmB.cell (show CmB wG w1.heap.size 25 c from HS.out.get 2 rfl) 1 rfl
        have kq2 : wG.cell? ⟨w1.heap.size, 2, none⟩ = some (.int .i64 c.a) := CmB.cell (show CmB wG w1.heap.size 25 c from HS.out.get 2 rfl) 2 rfl
        have kq3 : wG.cell? ⟨w1.heap.size, 3, none⟩ = some (.int .i64 c.b) := CmB.cell (show CmB wG w1.heap.size 25 c from HS.out.get 2 rfl) 3 rfl
        have kq4 : wG.cell? ⟨w1.heap.size, 4, none⟩ = some (.int .i64 c.k) := CmB.cell (show CmB wG w1.heap.size 25 c from HS.out.get 2 rfl) 4 rfl
        go_wp2_with fail
        refine (cio _).mono ?_
        rintro e wF ⟨rfl, bF⟩
        clear kq0 kq1 kq2 kq3 kq4
        replace HS : Hid (Sta w wF [Blk w5.heap.size 25 (cmA x), Blk w4.heap.size 25 (cmA x), Blk w1.heap.size 25 (cmA c)]) := HS.out.next bF
        clear bF
        go_wp2_with fail
        go_ret
        exact ⟨rfl, HS.out.below⟩
      · obtain ⟨e1, e2, e3, e4⟩ := HOK.out rfl
        rw [← e1] at e2 e3 e4
        simp only [e2, e3] at cr
        have hse : s.isEmpty = false := by cases s with | nil => simp at e4 | cons => rfl
        have hs8 : (s.length : Int) = 8 := by omega
        have hsz : (⟨s.toArray⟩ : ByteArray).size = s.length := rfl
        clear HOK HNO cio e1 e2 e3 e4
        go_wp2_with fail
        refine (cr _).mono ?_
        rintro e wF ⟨rfl, bF⟩
        replace HS : Hid (Sta w wF [Blk w5.heap.size 25 (cmA x), Blk w4.heap.size 25 (cmA x), Blk w1.heap.size 25 (cmA c)]) := HS.out.next bF
        clear bF
        replace HS : Hid (Sta w (wF.alloc (.cells #[.int .i64 c.o, .int .i64 c.p, .int .i64 c.a, .int .i64 c.b, .int .i64 c.k] 25)) [Blk wF.heap.size 25 (cmA c), Blk w5.heap.size 25 (cmA x), Blk w4.heap.size 25 (cmA x), Blk w1.heap.size 25 (cmA c)]) := HS.out.box 25 (cmA c)
        clear cr
        have kz0 : (wF.alloc (.cells #[.int .i64 c.o, .int .i64 c.p, .int .i64 c.a, .int .i64 c.b, .int .i64 c.k] 25)).cell? ⟨w1.heap.size, 0, none⟩ = some (.int .i64 c.o) := CmB.cell (show CmB (wF.alloc (.cells #[.int .i64 c.o, .int .i64 c.p, .int .i64 c.a, .int .i64 c.b, .int .i64 c.k] 25)) w1.heap.size 25 c from HS.out.get 3 rfl) 0 rfl
        have kz1 : (wF.alloc (.cells #[.int .i64 c.o, .int .i64 c.p, .int .i64 c.a, .int .i64 c.b, .int .i64 c.k] 25)).cell? ⟨w1.heap.size, 1, none⟩ = some (.int .i64 c.p) := CmB.cell (show CmB (wF.alloc (.cells #[.int .i64 c.o, .int .i64 c.p, .int .i64 c.a, .int .i64 c.b, .int .i64 c.k] 25)) w1.heap.size 25 c from HS.out.get 3 rfl) 1 rfl
        have kz2 : (wF.alloc (.cells #[.int .i64 c.o, .int .i64 c.p, .int .i64 c.a, .int .i64 c.b, .int .i64 c.k] 25)).cell? ⟨w1.heap.size, 2, none⟩ = some (.int .i64 c.a) := CmB.cell (show CmB (wF.alloc (.cells #[.int .i64 c.o, .int .i64 c.p, .int .i64 c.a, .int .i64 c.b, .int .i64 c.k] 25)) w1.heap.size 25 c from HS.out.get 3 rfl) 2 rfl
        have kz3 : (wF.alloc (.cells #[.int .i64 c.o, .int .i64 c.p, .int .i64 c.a, .int .i64 c.b, .int .i64 c.k] 25)).cell? ⟨w1.heap.size, 3, none⟩ = some (.int .i64 c.b) := CmB.cell (show CmB (wF.alloc (.cells #[.int .i64 c.o, .int .i64 c.p, .int .i64 c.a, .int .i64 c.b, .int .i64 c.k] 25)) w1.heap.size 25 c from HS.out.get 3 rfl) 3 rfl
        have kz4 : (wF.alloc (.cells #[.int .i64 c.o, .int .i64 c.p, .int .i64 c.a, .int .i64 c.b, .int .i64 c.k] 25)).cell? ⟨w1.heap.size, 4, none⟩ = some (.int .i64 c.k) := CmB.cell (show CmB (wF.alloc (.cells #[.int .i64 c.o, .int .i64 c.p, .int .i64 c.a, .int .i64 c.b, .int .i64 c.k] 25)) w1.heap.size 25 c from HS.out.get 3 rfl) 4 rfl
        go_wp2
        go_ret
        exact ⟨rfl, HS.out.below⟩
    · clear cix HHT
      have h8' : (t.length : Int) = 8 := by omega
      clear h8
      obtain rfl | rfl | rfl : k = 3 ∨ k = 4 ∨ k = 5 := by omega
      · clear hk3 hk5
        have kx0 : wE.cell? ⟨w4.heap.size, 0, none⟩ = some (.int .i64 Cm.zero.o) := CmB.cell (show CmB wE w4.heap.size 25 Cm.zero from HS.out.get 1 rfl) 0 rfl
        have kx1 : wE.cell? ⟨w4.heap.size, 1, none⟩ = some (.int .i64 Cm.zero.p) := CmB.cell (show CmB wE w4.heap.size 25 Cm.zero from HS.out.get 1 rfl) 1 rfl
        have kx2 : wE.cell? ⟨w4.heap.size, 2, none⟩ = some (.int .i64 Cm.zero.a) := CmB.cell (show CmB wE w4.heap.size 25 Cm.zero from HS.out.get 1 rfl) 2 rfl
        have kx3 : wE.cell? ⟨w4.heap.size, 3, none⟩ = some (.int .i64 Cm.zero.b) := CmB.cell (show CmB wE w4.heap.size 25 Cm.zero from HS.out.get 1 rfl) 3 rfl
        have kx4 : wE.cell? ⟨w4.heap.size, 4, none⟩ = some (.int .i64 Cm.zero.k) := CmB.cell (show CmB wE w4.heap.size 25 Cm.zero from HS.out.get 1 rfl) 4 rfl
        unfold Cm.zero at kx0 kx1 kx2 kx3 kx4
        dsimp only at kx0 kx1 kx2 kx3 kx4
        cases ok
        · obtain rfl : s = [] := HNO.out rfl
          clear HOK HNO cr
          have kq0 : wE.cell? ⟨w1.heap.size, 0, none⟩ = some (.int .i64 c.o) := CmB.cell (show CmB wE w1.heap.size 25 c from HS.out.get 2 rfl) 0 rfl
          have kq1 : wE.cell? ⟨w1.heap.size, 1, none⟩ = some (.int .i64 c.p) := CmB.cell (show CmB wE w1.heap.size 25 c from HS.out.get 2 rfl) 1 rfl
          have kq2 : wE.cell? ⟨w1.heap.size, 2, none⟩ = some (.int .i64 c.a) := CmB.cell (show CmB wE w1.heap.size 25 c from HS.out.get 2 rfl) 2 rfl
          have kq3 : wE.cell? ⟨w1.heap.size, 3, none⟩ = some (.int .i64 c.b) := CmB.cell (show CmB wE w1.heap.size 25 c from HS.out.get 2 rfl) 3 rfl
          have kq4 : wE.cell? ⟨w1.heap.size, 4, none⟩ = some (.int .i64 c.k) := CmB.cell (show CmB wE w1.heap.size 25 c from HS.out.get 2 rfl) 4 rfl
          go_wp2_with fail
          refine (cio _).mono ?_
          rintro e wF ⟨rfl, bF⟩
          clear kq0 kq1 kq2 kq3 kq4
          replace HS : Hid (Sta w wF [Blk w5.heap.size 25 (cmA Cm.zero), Blk w4.heap.size 25 (cmA Cm.zero), Blk w1.heap.size 25 (cmA c)]) := HS.out.next bF
          clear bF
          go_wp2_with fail
          go_ret
          exact ⟨rfl, HS.out.below⟩
        · obtain ⟨e1, e2, e3, e4⟩ := HOK.out rfl
          rw [← e1] at e2 e3 e4
          simp only [e2, e3] at cr
          have hse : s.isEmpty = false := by cases s with | nil => simp at e4 | cons => rfl
          have hs8 : (s.length : Int) = 8 := by omega
          have hsz : (⟨s.toArray⟩ : ByteArray).size = s.length := rfl
          clear HOK HNO cio e1 e2 e3 e4
          go_wp2_with fail
          refine (cr _).mono ?_
          rintro e wF ⟨rfl, bF⟩
          replace HS : Hid (Sta w wF [Blk w5.heap.size 25 (cmA Cm.zero), Blk w4.heap.size 25 (cmA Cm.zero), Blk w1.heap.size 25 (cmA c)]) := HS.out.next bF
          clear bF
          replace HS : Hid (Sta w (wF.alloc (.cells #[.int .i64 c.o, .int .i64 c.p, .int .i64 c.a, .int .i64 c.b, .int .i64 c.k] 25)) [Blk wF.heap.size 25 (cmA c), Blk w5.heap.size 25 (cmA Cm.zero), Blk w4.heap.size 25 (cmA Cm.zero), Blk w1.heap.size 25 (cmA c)]) := HS.out.box 25 (cmA c)
          clear cr
          have kz0 : (wF.alloc (.cells #[.int .i64 c.o, .int .i64 c.p, .int .i64 c.a, .int .i64 c.b, .int .i64 c.k] 25)).cell? ⟨w1.heap.size, 0, none⟩ = some (.int .i64 c.o) := CmB.cell (show CmB (wF.alloc (.cells #[.int .i64 c.o, .int .i64 c.p, .int .i64 c.a, .int .i64 c.b, .int .i64 c.k] 25)) w1.heap.size 25 c from HS.out.get 3 rfl) 0 rfl
          have kz1 : (wF.alloc (.cells #[.int .i64 c.o, .int .i64 c.p, .int .i64 c.a, .int .i64 c.b, .int .i64 c.k] 25)).cell? ⟨w1.heap.size, 1, none⟩ = some (.int .i64 c.p) := CmB.cell (show CmB (wF.alloc (.cells #[.int .i64 c.o, .int .i64 c.p, .int .i64 c.a, .int .i64 c.b, .int .i64 c.k] 25)) w1.heap.size 25 c from HS.out.get 3 rfl) 1 rfl
          have kz2 : (wF.alloc (.cells #[.int .i64 c.o, .int .i64 c.p, .int .i64 c.a, .int .i64 c.b, .int .i64 c.k] 25)).cell? ⟨w1.heap.size, 2, none⟩ = some (.int .i64 c.a) := CmB.cell (show CmB (wF.alloc (.cells #[.int .i64 c.o, .int .i64 c.p, .int .i64 c.a, .int .i64 c.b, .int .i64 c.k] 25)) w1.heap.size 25 c from HS.out.get 3 rfl) 2 rfl
          have kz3 : (wF.alloc (.cells #[.int .i64 c.o, .int .i64 c.p, .int .i64 c.a, .int .i64 c.b, .int .i64 c.k] 25)).cell? ⟨w1.heap.size, 3, none⟩ = some (.int .i64 c.b) := CmB.cell (show CmB (wF.alloc (.cells #[.int .i64 c.o, .int .i64 c.p, .int .i64 c.a, .int .i64 c.b, .int .i64 c.k] 25)) w1.heap.size 25 c from HS.out.get 3 rfl) 3 rfl
          have kz4 : (wF.alloc (.cells #[.int .i64 c.o, .int .i64 c.p, .int .i64 c.a, .int .i64 c.b, .int .i64 c.k] 25)).cell? ⟨w1.heap.size, 4, none⟩ = some (.int .i64 c.k) := CmB.cell (show CmB (wF.alloc (.cells #[.int .i64 c.o, .int .i64 c.p, .int .i64 c.a, .int .i64 c.b, .int .i64 c.k] 25)) w1.heap.size 25 c from HS.out.get 3 rfl) 4 rfl
          go_wp2
          go_ret
          exact ⟨rfl, HS.out.below⟩
      · clear hk3 hk5
        have kx0 : wE.cell? ⟨w4.heap.size, 0, none⟩ = some (.int .i64 Cm.zero.o) := CmB.cell (show CmB wE w4.heap.size 25 Cm.zero from HS.out.get 1 rfl) 0 rfl
        have kx1 : wE.cell? ⟨w4.heap.size, 1, none⟩ = some (.int .i64 Cm.zero.p) := CmB.cell (show CmB wE w4.heap.size 25 Cm.zero from HS.out.get 1 rfl) 1 rfl
        have kx2 : wE.cell? ⟨w4.heap.size, 2, none⟩ = some (.int .i64 Cm.zero.a) := CmB.cell (show CmB wE w4.heap.size 25 Cm.zero from HS.out.get 1 rfl) 2 rfl
        have kx3 : wE.cell? ⟨w4.heap.size, 3, none⟩ = some (.int .i64 Cm.zero.b) := CmB.cell (show CmB wE w4.heap.size 25 Cm.zero from HS.out.get 1 rfl) 3 rfl
        have kx4 : wE.cell? ⟨w4.heap.size, 4, none⟩ = some (.int .i64 Cm.zero.k) := CmB.cell (show CmB wE w4.heap.size 25 Cm.zero from HS.out.get 1 rfl) 4 rfl
        unfold Cm.zero at kx0 kx1 kx2 kx3 kx4
        dsimp only at kx0 kx1 kx2 kx3 kx4
        cases ok
        · obtain rfl : s = [] := HNO.out rfl
          clear HOK HNO cr
          have kq0 : wE.cell? ⟨w1.heap.size, 0, none⟩ = some (.int .i64 c.o) := CmB.cell (show CmB wE w1.heap.size 25 c from HS.out.get 2 rfl) 0 rfl
          have kq1 : wE.cell? ⟨w1.heap.size, 1, none⟩ = some (.int .i64 c.p) := CmB.cell (show CmB wE w1.heap.size 25 c from HS.out.get 2 rfl) 1 rfl
          have kq2 : wE.cell? ⟨w1.heap.size, 2, none⟩ = some (.int .i64 c.a) := CmB.cell (show CmB wE w1.heap.size 25 c from HS.out.get 2 rfl) 2 rfl
          have kq3 : wE.cell? ⟨w1.heap.size, 3, none⟩ = some (.int .i64 c.b) := CmB.cell (show CmB wE w1.heap.size 25 c from HS.out.get 2 rfl) 3 rfl
          have kq4 : wE.cell? ⟨w1.heap.size, 4, none⟩ = some (.int .i64 c.k) := CmB.cell (show CmB wE w1.heap.size 25 c from HS.out.get 2 rfl) 4 rfl
          go_wp2_with fail
          refine (cio _).mono ?_
          rintro e wF ⟨rfl, bF⟩
          clear kq0 kq1 kq2 kq3 kq4
          replace HS : Hid (Sta w wF [Blk w5.heap.size 25 (cmA Cm.zero), Blk w4.heap.size 25 (cmA Cm.zero), Blk w1.heap.size 25 (cmA c)]) := HS.out.next bF
          clear bF
          go_wp2_with fail
          go_ret
          exact ⟨rfl, HS.out.below⟩
        · obtain ⟨e1, e2, e3, e4⟩ := HOK.out rfl
          rw [← e1] at e2 e3 e4
          simp only [e2, e3] at cr
          have hse : s.isEmpty = false := by cases s with | nil => simp at e4 | cons => rfl
          have hs8 : (s.length : Int) = 8 := by omega
          have hsz : (⟨s.toArray⟩ : ByteArray).size = s.length := rfl
          clear HOK HNO cio e1 e2 e3 e4
          go_wp2_with fail
          refine (cr _).mono ?_
          rintro e wF ⟨rfl, bF⟩
          replace HS : Hid (Sta w wF [Blk w5.heap.size 25 (cmA Cm.zero), Blk w4.heap.size 25 (cmA Cm.zero), Blk w1.heap.size 25 (cmA c)]) := HS.out.next bF
          clear bF
          replace HS : Hid (Sta w (wF.alloc (.cells #[.int .i64 c.o, .int .i64 c.p, .int .i64 c.a, .int .i64 c.b, .int .i64 c.k] 25)) [Blk wF.heap.size 25 (cmA c), Blk w5.heap.size 25 (cmA Cm.zero), Blk w4.heap.size 25 (cmA Cm.zero), Blk w1.heap.size 25 (cmA c)]) := HS.out.box 25 (cmA c)
          clear cr
          have kz0 : (wF.alloc (.cells #[.int .i64 c.o, .int .i64 c.p, .int .i64 c.a, .int .i64 c.b, .int .i64 c.k] 25)).cell? ⟨w1.heap.size, 0, none⟩ = some (.int .i64 c.o) := CmB.cell (show CmB (wF.alloc (.cells #[.int .i64 c.o, .int .i64 c.p, .int .i64 c.a, .int .i64 c.b, .int .i64 c.k] 25)) w1.heap.size 25 c from HS.out.get 3 rfl) 0 rfl
          have kz1 : (wF.alloc (.cells #[.int .i64 c.o, .int .i64 c.p, .int .i64 c.a, .int .i64 c.b, .int .i64 c.k] 25)).cell? ⟨w1.heap.size, 1, none⟩ = some (.int .i64 c.p) := CmB.cell (show CmB (wF.alloc (.cells #[.int .i64 c.o, .int .i64 c.p, .int .i64 c.a, .int .i64 c.b, .int .i64 c.k] 25)) w1.heap.size 25 c from HS.out.get 3 rfl) 1 rfl
          have kz2 : (wF.alloc (.cells #[.int .i64 c.o, .int .i64 c.p, .int .i64 c.a, .int .i64 c.b, .int .i64 c.k] 25)).cell? ⟨w1.heap.size, 2, none⟩ = some (.int .i64 c.a) := CmB.cell (show CmB (wF.alloc (.cells #[.int .i64 c.o, .int .i64 c.p, .int .i64 c.a, .int .i64 c.b, .int .i64 c.k] 25)) w1.heap.size 25 c from HS.out.get 3 rfl) 2 rfl
          have kz3 : (wF.alloc (.cells #[.int .i64 c.o, .int .i64 c.p, .int .i64 c.a, .int .i64 c.b, .int .i64 c.k] 25)).cell? ⟨w1.heap.size, 3, none⟩ = some (.int .i64 c.b) := CmB.cell (show CmB (wF.alloc (.cells #[.int .i64 c.o, .int .i64 c.p, .int .i64 c.a, .int .i64 c.b, .int .i64 c.k] 25)) w1.heap.size 25 c from HS.out.get 3 rfl) 3 rfl
          have kz4 : (wF.alloc (.cells #[.int .i64 c.o, .int .i64 c.p, .int .i64 c.a, .int .i64 c.b, .int .i64 c.k] 25)).cell? ⟨w1.heap.size, 4, none⟩ = some (.int .i64 c.k) := CmB.cell (show CmB (wF.alloc (.cells #[.int .i64 c.o, .int .i64 c.p, .int .i64 c.a, .int .i64 c.b, .int .i64 c.k] 25)) w1.heap.size 25 c from HS.out.get 3 rfl) 4 rfl
          go_wp2
          go_ret
          exact ⟨rfl, HS.out.below⟩
      · clear hk3 hk5
        have kx0 : wE.cell? ⟨w4.heap.size, 0, none⟩ = some (.int .i64 Cm.zero.o) := CmB.cell (show CmB wE w4.heap.size 25 Cm.zero from HS.out.get 1 rfl) 0 rfl
        have kx1 : wE.cell? ⟨w4.heap.size, 1, none⟩ = some (.int .i64 Cm.zero.p) := CmB.cell (show CmB wE w4.heap.size 25 Cm.zero from HS.out.get 1 rfl) 1 rfl
        have kx2 : wE.cell? ⟨w4.heap.size, 2, none⟩ = some (.int .i64 Cm.zero.a) := CmB.cell (show CmB wE w4.heap.size 25 Cm.zero from HS.out.get 1 rfl) 2 rfl
        have kx3 : wE.cell? ⟨w4.heap.size, 3, none⟩ = some (.int .i64 Cm.zero.b) := CmB.cell (show CmB wE w4.heap.size 25 Cm.zero from HS.out.get 1 rfl) 3 rfl
        have kx4 : wE.cell? ⟨w4.heap.size, 4, none⟩ = some (.int .i64 Cm.zero.k) := CmB.cell (show CmB wE w4.heap.size 25 Cm.zero from HS.out.get 1 rfl) 4 rfl
        unfold Cm.zero at kx0 kx1 kx2 kx3 kx4
        dsimp only at kx0 kx1 kx2 kx3 kx4
        cases ok
        · obtain rfl : s = [] := HNO.out rfl
          clear HOK HNO cr
          have kq0 : wE.cell? ⟨w1.heap.size, 0, none⟩ = some (.int .i64 c.o) := CmB.cell (show CmB wE w1.heap.size 25 c from HS.out.get 2 rfl) 0 rfl
          have kq1 : wE.cell? ⟨w1.heap.size, 1, none⟩ = some (.int .i64 c.p) := CmB.cell (show CmB wE w1.heap.size 25 c from HS.out.get 2 rfl) 1 rfl
          have kq2 : wE.cell? ⟨w1.heap.size, 2, none⟩ = some (.int .i64 c.a) := CmB.cell (show CmB wE w1.heap.size 25 c from HS.out.get 2 rfl) 2 rfl
          have kq3 : wE.cell? ⟨w1.heap.size, 3, none⟩ = some (.int .i64 c.b) := CmB.cell (show CmB wE w1.heap.size 25 c from HS.out.get 2 rfl) 3 rfl
          have kq4 : wE.cell? ⟨w1.heap.size, 4, none⟩ = some (.int .i64 c.k) := CmB.cell (show CmB wE w1.heap.size 25 c from HS.out.get 2 rfl) 4 rfl
          go_wp2_with fail
          refine (cio _).mono ?_
          rintro e wF ⟨rfl, bF⟩
          clear kq0 kq1 kq2 kq3 kq4
          replace HS : Hid (Sta w wF [Blk w5.heap.size 25 (cmA Cm.zero), Blk w4.heap.size 25 (cmA Cm.zero), Blk w1.heap.size 25 (cmA c)]) := HS.out.next bF
          clear bF
          go_wp2_with fail
          go_ret
          exact ⟨rfl, HS.out.below⟩
        · obtain ⟨e1, e2, e3, e4⟩ := HOK.out rfl
          rw [← e1] at e2 e3 e4
          simp only [e2, e3] at cr
          have hse : s.isEmpty = false := by cases s with | nil => simp at e4 | cons => rfl
          have hs8 : (s.length : Int) = 8 := by omega
          have hsz : (⟨s.toArray⟩ : ByteArray).size = s.length := rfl
          clear HOK HNO cio e1 e2 e3 e4
          go_wp2_with fail
          refine (cr _).mono ?_
          rintro e wF ⟨rfl, bF⟩
          replace HS : Hid (Sta w wF [Blk w5.heap.size 25 (cmA Cm.zero), Blk w4.heap.size 25 (cmA Cm.zero), Blk w1.heap.size 25 (cmA c)]) := HS.out.next bF
          clear bF
          replace HS : Hid (Sta w (wF.alloc (.cells #[.int .i64 c.o, .int .i64 c.p, .int .i64 c.a, .int .i64 c.b, .int .i64 c.k] 25)) [Blk wF.heap.size 25 (cmA c), Blk w5.heap.size 25 (cmA Cm.zero), Blk w4.heap.size 25 (cmA Cm.zero), Blk w1.heap.size 25 (cmA c)]) := HS.out.box 25 (cmA c)
          clear cr
          have kz0 : (wF.alloc (.cells #[.int .i64 c.o, .int .i64 c.p, .int .i64 c.a, .int .i64 c.b, .int .i64 c.k] 25)).cell? ⟨w1.heap.size, 0, none⟩ = some (.int .i64 c.o) := CmB.cell (show CmB (wF.alloc (.cells #[.int .i64 c.o, .int .i64 c.p, .int .i64 c.a, .int .i64 c.b, .int .i64 c.k] 25)) w1.heap.size 25 c from HS.out.get 3 rfl) 0 rfl
          have kz1 : (wF.alloc (.cells #[.int .i64 c.o, .int .i64 c.p, .int .i64 c.a, .int .i64 c.b, .int .i64 c.k] 25)).cell? ⟨w1.heap.size, 1, none⟩ = some (.int .i64 c.p) := CmB.cell (show CmB (wF.alloc (.cells #[.int .i64 c.o, .int .i64 c.p, .int .i64 c.a, .int .i64 c.b, .int .i64 c.k] 25)) w1.heap.size 25 c from HS.out.get 3 rfl) 1 rfl
          have kz2 : (wF.alloc (.cells #[.int .i64 c.o, .int .i64 c.p, .int .i64 c.a, .int .i64 c.b, .int .i64 c.k] 25)).cell? ⟨w1.heap.size, 2, none⟩ = some (.int .i64 c.a) := CmB.cell (show CmB (wF.alloc (.cells #[.int .i64 c.o, .int .i64 c.p, .int .i64 c.a, .int .i64 c.b, .int .i64 c.k] 25)) w1.heap.size 25 c from HS.out.get 3 rfl) 2 rfl
          have kz3 : (wF.alloc (.cells #[.int .i64 c.o, .int .i64 c.p, .int .i64 c.a, .int .i64 c.b, .int .i64 c.k] 25)).cell? ⟨w1.heap.size, 3, none⟩ = some (.int .i64 c.b) := CmB.cell (show CmB (wF.alloc (.cells #[.int .i64 c.o, .int .i64 c.p, .int .i64 c.a, .int .i64 c.b, .int .i64 c.k] 25)) w1.heap.size 25 c from HS.out.get 3 rfl) 3 rfl
          have kz4 : (wF.alloc (.cells #[.int .i64 c.o, .int .i64 c.p, .int .i64 c.a, .int .i64 c.b, .int .i64 c.k] 25)).cell? ⟨w1.heap.size, 4, none⟩ = some (.int .i64 c.k) := CmB.cell (show CmB (wF.alloc (.cells #[.int .i64 c.o, .int .i64 c.p, .int .i64 c.a, .int .i64 c.b, .int .i64 c.k] 25)) w1.heap.size 25 c from HS.out.get 3 rfl) 4 rfl
          go_wp2
          go_ret
          exact ⟨rfl, HS.out.below⟩

set_option maxRecDepth 100000 in
theorem lifted (os : Os) (started : os.Started) (H : Type) (enc : TypeId × Value → H) :
    ReturnsInHanded {} Try.checked os 3 .any (Rows.fnCmdsSpec.pre6 enc Try.prog Try.f3 Rows.fnCmdsRow.domain false) (Rows.fnCmdsSpec.post enc Try.prog Try.f3 false true false false) := by
  refine returnsInHanded_of_change (C := Try.checked) own started (by kernel_rfl) Try.func3
    (ChangeSpec.witness6 (enc := enc) (C := Try.checked) false ⟨#[], #[.slice none 0 0], []⟩ 8 (by kernel_rfl) (by kernel_rfl) (by kernel_rfl) (by kernel_rfl)) ?_
  intro W base args ds gs before hval0 hW hcnd _
  have hval : ∀ (j : Nat) t v, Try.f3.params[j]? = some t → args[j]? = some v → Value.okWide Try.prog W .any base t v := hval0
  have hW' := hW
  obtain ⟨p, q, hA0, hV, rfl, hfz, hnd⟩ := hW
  have hA : DataW.TrodAll enc Try.prog W 0 (fun _ => true) true Try.f3.params.toList args.toList ds p := hA0
  rw [Try.params3] at hA hval
  obtain ⟨v0, vs0, d0, ds0, p0, q0, hargs, rfl, rfl, h0, r0⟩ := trodAll_cons hA
  obtain ⟨rfl, rfl, rfl⟩ := trodAll_nil r0
  obtain rfl : args = #[v0] := by cases args; simp_all
  obtain ⟨rfl, rfl⟩ := trodVars_none hV
  obtain ⟨a0, len0, cap0, rfl⟩ := okWide_slice Try.underlying22 (hval 0 22 v0 rfl rfl)
  have k0 := h0
  have lt0 : ∀ x ∈ p0, x.block < W.heap.size := by obtain ⟨m, hm⟩ := k0; exact DataW.trod_lt m _ _ _ hm
  obtain ⟨z0, w0⟩ : ∃ zs, IsRow .u8 W a0 len0 cap0 zs := by
    obtain ⟨fuel, hf⟩ := h0
    rcases open_ints Try.underlying22 Try.underlying5 (by kernel_rfl) hf with ⟨hcs, _⟩ | ⟨x, l, c, zs, hcs, _, hl, hm, hz, _, hcell, hwz⟩
    · simp [Value.cells] at hcs
      obtain ⟨rfl, rfl, rfl⟩ := hcs
      exact ⟨[], .inl ⟨rfl, rfl, rfl, rfl⟩⟩
    · simp [Value.cells] at hcs
      obtain ⟨rfl, rfl, rfl⟩ := hcs
      exact ⟨zs, .inr ⟨_, rfl, hl, hm, by simpa using hz, hcell, hwz⟩⟩
  clear hA0 hval0
  refine (walk a0 len0 cap0 z0 W w0).mono fun e W' ⟨he, bel⟩ => ?_
  subst he
  exact ⟨_, rfl, _, _, _, [], _, [], hW', trodAll_mk1 (shut_bool Try.underlying4 _), (trodAll_cons_mk (Below.trod laidOut (by kernel_rfl) (of_decide_eq_true (by kernel_rfl)) k0 bel lt0) trodAll_mk0), rfl, bel.frame _, fun h => by cases h⟩

theorem over : Rows.fnCmdsRow.holds Try.pinned (OpenSpec.ofChange Rows.fnCmdsSpec) :=
  OpenClaim.holds_of_wide 3 Try.f3 rfl rfl rfl rfl rfl rfl rfl ⟨rfl, rfl, rfl, rfl, rfl⟩ rfl rfl rfl rfl rfl (by kernel_rfl) Try.func3 (by kernel_rfl)
    (of_decide_eq_true (by kernel_rfl)) (by unfold Func.isWrapper; first | (rw [if_pos (by decide +kernel)]; kernel_rfl) | (rw [if_neg (by decide +kernel)]; exact ⟨rfl, rfl⟩))
    (fun os started H enc _ => lifted os started H enc)

theorem proved : Rows.FnCmdsSaid := over
end Go.Proofs.Ytcphnnibhlmajaa.fnCmds
namespace Go.Proofs.Ytcphnnibhlmajaa
theorem fnCmds_holds : Rows.FnCmdsSaid := fnCmds.proved
end Go.Proofs.Ytcphnnibhlmajaa
