/- At every list of bytes the law FnTurnedCmd returns true: with one byte turned a command is none, and the program answers as the model. -/
import Derived.Test.YtcphnnibhlmajaaRows
import Derived.WalkKit
import Derived.ProofKit
import Derived.OpenShut
import Derived.ShutString
import Derived.ChangeOld
import Derived.Below
import Derived.Test.YtcphnnibhlmajaaDrawCmS
import Derived.Test.YtcphnnibhlmajaaICmd
import Derived.Test.YtcphnnibhlmajaaCmTurn
namespace Go.Proofs.Ytcphnnibhlmajaa.fnTurnedCmd
open Go.ChangeShapes Go.WideShapes Go.ChangeAt Go.RowKit
open Go.ChangeMaps (open_string shut_string)
set_option linter.unusedVariables false

theorem own : ownKnob Try.prog.godebug = none := by kernel_rfl
theorem laidOut : laidOutB Try.prog = true := by kernel_rfl

def IsRow (k : IntKind) (w : World) (a : Option Addr) (len cap : Nat) (zs : List Int) : Prop :=
  (a = none ∧ len = 0 ∧ cap = 0 ∧ zs = []) ∨
  ∃ x, a = some x ∧ len ≤ cap ∧ cap ≤ maxLen ∧ zs.length = cap ∧ (∀ i, i < zs.length → w.cell? (x.add i) = some (.int k (zs.getD i 0))) ∧ ∀ n ∈ zs, (Lit.int k n).wf = true

set_option maxRecDepth 20000 in
set_option maxHeartbeats 20000000 in
theorem walk (a0 : Option Addr) (len0 cap0 : Nat) (z0 : List Int) (w : World) (w0 : IsRow .u8 w a0 len0 cap0 z0) :
    Calls Try.prog 4 #[.slice a0 len0 cap0] w fun e w' => e = .returned (.bool true) ∧ Below w.heap.size w w' := by
  by_cases hbig : (4096 : Int) < (len0 : Int)
  · go_enter Try.func4, Try.ntmps4
    go_wp2_with (go_at_call 9; refine (big_any _ _ _ _).mono ?_; rintro e w' ⟨rfl, hw'⟩; subst w')
    go_ret
    exact ⟨rfl, Below.refl _ _⟩
  · have HC : Hid (CodeOk w w.heap.size (.slice a0 len0 cap0)) := codeOk_row w0 (by omega)
    clear w0
    have HS : Hid (Sta w w []) := Sta.start w
    go_enter Try.func4, Try.ntmps4
    go_wp2_with fail
    refine (big_any _ _ _ _).mono ?_
    rintro e w' ⟨rfl, hw'⟩; subst w'
    go_wp2_with fail
    refine (drawChg_any w.heap.size _ _ (HC.out.below HS.out.below) HS.out.below.size).mono ?_
    rintro e w1 ⟨c, rfl, b1⟩
    replace HS : Hid (Sta w w1 []) := HS.out.next b1
    clear b1
    replace HS : Hid (Sta w (w1.alloc (.cells #[.int .i64 c.o, .int .i64 c.p, .int .i64 c.a, .int .i64 c.b, .int .i64 c.k] 25)) [Blk w1.heap.size 25 (cmA c)]) := HS.out.box 25 (cmA c)
    have css := fun wx => sshowC_any c wx
    have cic := fun wx => ichg_any c wx
    have csc := fun wx => schg_any c wx
    have HOK : Hid (c.ok = true → showCS c = showC c) := fun h => by simp [showCS, h]
    have HNO : Hid (c.ok = false → showCS c = []) := fun h => by simp [showCS, h]
    have HTU : Hid (c.ok = true → ∀ (j : Nat), j < 8 → ∀ x : UInt8, ((showC c).set j x ≠ showC c → codeC ((showC c).set j x) = 3) ∧ ((showC c).set j x = showC c → codeC ((showC c).set j x) = 0)) := fun h => turned_code h
    have HL8 : Hid ((showC c).length = 8) := rfl
    obtain ⟨s, hs⟩ : ∃ s, s = showCS c := ⟨_, rfl⟩
    obtain ⟨ch, hch⟩ : ∃ ch, ch = c.chg := ⟨_, rfl⟩
    simp only [← hs] at css
    simp only [← hch] at cic csc
    rw [← hs] at HOK HNO
    unfold S CV cmA at css
    unfold CV cmA at cic csc
    clear hs hch
    obtain ⟨w2, hw2⟩ : ∃ w2, w2 = (w1.alloc (.cells #[.int .i64 c.o, .int .i64 c.p, .int .i64 c.a, .int .i64 c.b, .int .i64 c.k] 25)) := ⟨_, rfl⟩
    rw [← hw2] at HS
    have ka0 : w2.cell? ⟨w1.heap.size, 0, none⟩ = some (.int .i64 c.o) := CmB.cell (show CmB w2 w1.heap.size 25 c from HS.out.get 0 rfl) 0 rfl
    have ka1 : w2.cell? ⟨w1.heap.size, 1, none⟩ = some (.int .i64 c.p) := CmB.cell (show CmB w2 w1.heap.size 25 c from HS.out.get 0 rfl) 1 rfl
    have ka2 : w2.cell? ⟨w1.heap.size, 2, none⟩ = some (.int .i64 c.a) := CmB.cell (show CmB w2 w1.heap.size 25 c from HS.out.get 0 rfl) 2 rfl
    have ka3 : w2.cell? ⟨w1.heap.size, 3, none⟩ = some (.int .i64 c.b) := CmB.cell (show CmB w2 w1.heap.size 25 c from HS.out.get 0 rfl) 3 rfl
    have ka4 : w2.cell? ⟨w1.heap.size, 4, none⟩ = some (.int .i64 c.k) := CmB.cell (show CmB w2 w1.heap.size 25 c from HS.out.get 0 rfl) 4 rfl
    have Hw2 : Hid _ := hw2
    clear hw2
    have Hcss : Hid _ := css
    clear css
    unfold CV cmA
    go_wp2_with fail
    rw [← Hw2.out]
    go_region_held3 (fun w' => w'.cell? ⟨w1.heap.size, 0, none⟩ = some (.int .i64 c.o) ∧ w'.cell? ⟨w1.heap.size, 1, none⟩ = some (.int .i64 c.p) ∧ w'.cell? ⟨w1.heap.size, 2, none⟩ = some (.int .i64 c.a) ∧ w'.cell? ⟨w1.heap.size, 3, none⟩ = some (.int .i64 c.b) ∧ w'.cell? ⟨w1.heap.size, 4, none⟩ = some (.int .i64 c.k)) (go_keep)
      (first
      | (go_at_call 18; refine (cic _).mono ?_; rintro e wA ⟨rfl, bA⟩; have HA : Hid _ := HS.out.drew1.next bA; clear bA; have kA0 : wA.cell? ⟨w1.heap.size, 0, none⟩ = some (.int .i64 c.o) := CmB.cell (show CmB wA w1.heap.size 25 c from HA.out.get 0 rfl) 0 rfl; have kA1 : wA.cell? ⟨w1.heap.size, 1, none⟩ = some (.int .i64 c.p) := CmB.cell (show CmB wA w1.heap.size 25 c from HA.out.get 0 rfl) 1 rfl; have kA2 : wA.cell? ⟨w1.heap.size, 2, none⟩ = some (.int .i64 c.a) := CmB.cell (show CmB wA w1.heap.size 25 c from HA.out.get 0 rfl) 2 rfl; have kA3 : wA.cell? ⟨w1.heap.size, 3, none⟩ = some (.int .i64 c.b) := CmB.cell (show CmB wA w1.heap.size 25 c from HA.out.get 0 rfl) 3 rfl; have kA4 : wA.cell? ⟨w1.heap.size, 4, none⟩ = some (.int .i64 c.k) := CmB.cell (show CmB wA w1.heap.size 25 c from HA.out.get 0 rfl) 4 rfl)
      | (go_at_call 19; refine (csc _).mono ?_; rintro e wB ⟨rfl, bB⟩; have HB : Hid _ := HA.out.next bB; clear bB; have kB0 : wB.cell? ⟨w1.heap.size, 0, none⟩ = some (.int .i64 c.o) := CmB.cell (show CmB wB w1.heap.size 25 c from HB.out.get 0 rfl) 0 rfl; have kB1 : wB.cell? ⟨w1.heap.size, 1, none⟩ = some (.int .i64 c.p) := CmB.cell (show CmB wB w1.heap.size 25 c from HB.out.get 0 rfl) 1 rfl; have kB2 : wB.cell? ⟨w1.heap.size, 2, none⟩ = some (.int .i64 c.a) := CmB.cell (show CmB wB w1.heap.size 25 c from HB.out.get 0 rfl) 2 rfl; have kB3 : wB.cell? ⟨w1.heap.size, 3, none⟩ = some (.int .i64 c.b) := CmB.cell (show CmB wB w1.heap.size 25 c from HB.out.get 0 rfl) 3 rfl; have kB4 : wB.cell? ⟨w1.heap.size, 4, none⟩ = some (.int .i64 c.k) := CmB.cell (show CmB wB w1.heap.size 25 c from HB.out.get 0 rfl) 4 rfl))
    replace HS : Hid (Sta w wB [Blk w1.heap.size 25 (cmA c)]) := HB.out
    clear HA HB Hw2 cic csc
    clear ka0 ka1 ka2 ka3 ka4 kA0 kA1 kA2 kA3 kA4
    have css := Hcss.out
    clear Hcss
    go_wp2_with fail
    refine (css _).mono ?_
    rintro e w3 ⟨rfl, b3⟩
    clear kB0 kB1 kB2 kB3 kB4
    replace HS : Hid (Sta w w3 [Blk w1.heap.size 25 (cmA c)]) := HS.out.next b3
    clear b3
    clear css
    by_cases hok : c.ok = true
    · obtain rfl : s = showC c := HOK.out hok
      have HTU2 := HTU.out hok
      have e8 := HL8.out
      obtain ⟨s, hs⟩ : ∃ s, s = showC c := ⟨_, rfl⟩
      rw [← hs] at e8 ⊢
      simp only [← hs] at HTU2
      have HT : Hid _ := HTU2
      have hse : s.isEmpty = false := by cases s with | nil => simp at e8 | cons => rfl
      have hs8 : (s.length : Int) = 8 := by omega
      have hsz : (⟨s.toArray⟩ : ByteArray).size = s.length := rfl
      clear HOK HNO HTU HTU2 HL8 hs hok
      go_wp2_with fail
      refine (pick_any w.heap.size _ _ _ (HC.out.below HS.out.below) (by omega) (by omega)).mono ?_
      rintro e w4 ⟨pk, rfl, hp0, hp1, n4, hw4⟩
      replace HS : Hid (Sta w w4 [Blk w1.heap.size 25 (cmA c)]) := HS.out.drew hw4
      clear hw4
      obtain ⟨j, rfl⟩ : ∃ j : Nat, pk = j := ⟨pk.toNat, by omega⟩
      go_wp2_with fail
      refine (pick2_any w.heap.size _ _ _ (HC.out.below HS.out.below) (by omega) (by omega)).mono ?_
      rintro e w5 ⟨q, rfl, hq0, hq1, n5, hw5⟩
      replace HS : Hid (Sta w w5 [Blk w1.heap.size 25 (cmA c)]) := HS.out.drew hw5
      clear hw5
      obtain ⟨x, rfl⟩ : ∃ x : UInt8, q = byteI x := ⟨bt q, (byteI_bt hq0 (by omega)).symm⟩
      have hqm : byteI x % 256 = byteI x := by omega
      have HJ := HT.out j (by omega) x
      have hcut := set_cut s j (by omega) x
      have hex1 := extract_two s 0 j
      have hex2 := extract_two s (j + 1) s.length
      have e1 : (s.take j).drop 0 = s.take j := by simp
      have e2 : (s.take s.length).drop (j + 1) = s.drop (j + 1) := by simp
      rw [e1] at hex1
      rw [e2, e8] at hex2
      have ha1 := app (s.take j) [x]
      have ha2 := app (s.take j ++ [x]) (s.drop (j + 1))
      rw [hcut] at ha2
      have hl1 : (s.take j).length ≤ 8 := by simp; omega
      have hl2 : (s.drop (j + 1)).length ≤ 8 := by simp; omega
      have hlt : (s.set j x).length ≤ 8 := by simp; omega
      have cit := fun wx => ireadC_any (s.set j x) wx (by omega)
      have cst := fun wx => sreadC_any (s.set j x) wx (by omega)
      obtain ⟨t, ht⟩ : ∃ t, t = s.set j x := ⟨_, rfl⟩
      obtain ⟨r, hr⟩ : ∃ r, r = readC t := ⟨_, rfl⟩
      obtain ⟨k, hk⟩ : ∃ k, k = codeC t := ⟨_, rfl⟩
      simp only [← ht] at cit cst HJ
      rw [← ht] at ha2 hlt
      simp only [← hr, ← hk] at cit cst
      rw [← hk] at HJ
      unfold S CV cmA at cit cst
      have hO : ∀ wx : World, OwnU (wx.alloc (.cells #[.int .u8 (byteI x)] 5)) wx.heap.size (.slice (some ⟨wx.heap.size, 0, none⟩) 1 1) [x] := fun wx => by
        unfold OwnU
        simp only [List.map_cons, List.map_nil, U, List.length_cons, List.length_nil]
        exact World.ownsRow_lit (base := wx.heap.size) (e := 5) (size := 1) wx #[.int .u8 (byteI x)] 1 (by simp) (by unfold maxLen; omega) rfl
      have hO5 : OwnU (w5.alloc (.cells #[.int .u8 (byteI x)] 5)).drew w5.heap.size (.slice (some ⟨w5.heap.size, 0, none⟩) 1 1) [x] := hO w5
      have hstr := run_str (w5.alloc (.cells #[.int .u8 (byteI x)] 5)).drew _ _ _ hO5 (by simp)
      unfold S at hstr
      have HJ1 : Hid _ := HJ
      have hz1 : (⟨(s.take j).toArray⟩ : ByteArray).size = (s.take j).length := rfl
      have hz2 : (⟨(s.drop (j + 1)).toArray⟩ : ByteArray).size = (s.drop (j + 1)).length := rfl
      clear hO hO5 e1 e2 HT HJ ht hr hk hcut
      go_wp2_with fail
      go_region
      obtain ⟨w6, hw6⟩ : ∃ w6, w6 = (w5.alloc (.cells #[.int .u8 (byteI x)] 5)).drew := ⟨_, rfl⟩
      have b6 : Below w5.heap.size w5 w6 := by rw [hw6]; exact below_drewN ((Below.refl _ _).alloc (Nat.le_refl _) _) 1
      rw [← hw6]
      replace HS : Hid (Sta w w6 [Blk w1.heap.size 25 (cmA c)]) := HS.out.next b6
      clear b6
      clear hw6 hstr ha1 ha2 hex1 hex2 hz1 hz2 hl1 hl2 hqm
      go_wp2_with fail
      refine (cit _).mono ?_
      rintro e w7 ⟨rfl, b7⟩
      replace HS : Hid (Sta w w7 [Blk w1.heap.size 25 (cmA c)]) := HS.out.next b7
      clear b7
      replace HS : Hid (Sta w (w7.alloc (.cells #[.int .i64 r.o, .int .i64 r.p, .int .i64 r.a, .int .i64 r.b, .int .i64 r.k] 25)) [Blk w7.heap.size 25 (cmA r), Blk w1.heap.size 25 (cmA c)]) := HS.out.box 25 (cmA r)
      clear cit
      go_wp2_with fail
      refine (cst _).mono ?_
      rintro e w8 ⟨rfl, b8⟩
      replace HS : Hid (Sta w w8 [Blk w7.heap.size 25 (cmA r), Blk w1.heap.size 25 (cmA c)]) := HS.out.next b8
      clear b8
      replace HS : Hid (Sta w (w8.alloc (.cells #[.int .i64 r.o, .int .i64 r.p, .int .i64 r.a, .int .i64 r.b, .int .i64 r.k] 25)) [Blk w8.heap.size 25 (cmA r), Blk w7.heap.size 25 (cmA r), Blk w1.heap.size 25 (cmA c)]) := HS.out.box 25 (cmA r)
      clear cst
      by_cases hts : t = s
      · obtain rfl : k = 0 := HJ1.out.2 hts
        subst hts
        go_wp2
        go_ret
        exact ⟨rfl, HS.out.below⟩
      · obtain rfl : k = 3 := HJ1.out.1 hts
        have hne2 : (⟨t.toArray⟩ : ByteArray) ≠ ⟨s.toArray⟩ := by simpa using hts
        go_wp2
        go_ret
        exact ⟨ret_bool (by simp [hts]), HS.out.below⟩
    · have hok' : c.ok = false := by simpa using hok
      obtain rfl : s = [] := HNO.out hok'
      clear HOK HNO HTU HL8 hok hok'
      go_wp2
      go_ret
      exact ⟨rfl, HS.out.below⟩

set_option maxRecDepth 100000 in
theorem lifted (os : Os) (started : os.Started) (H : Type) (enc : TypeId × Value → H) :
    ReturnsInHanded {} Try.checked os 4 .any (Rows.fnTurnedCmdSpec.pre6 enc Try.prog Try.f4 Rows.fnTurnedCmdRow.domain false) (Rows.fnTurnedCmdSpec.post enc Try.prog Try.f4 false true false false) := by
  refine returnsInHanded_of_change (C := Try.checked) own started (by kernel_rfl) Try.func4
    (ChangeSpec.witness6 (enc := enc) (C := Try.checked) false ⟨#[], #[.slice none 0 0], []⟩ 8 (by kernel_rfl) (by kernel_rfl) (by kernel_rfl) (by kernel_rfl)) ?_
  intro W base args ds gs before hval0 hW hcnd _
  have hval : ∀ (j : Nat) t v, Try.f4.params[j]? = some t → args[j]? = some v → Value.okWide Try.prog W .any base t v := hval0
  have hW' := hW
  obtain ⟨p, q, hA0, hV, rfl, hfz, hnd⟩ := hW
  have hA : DataW.TrodAll enc Try.prog W 0 (fun _ => true) true Try.f4.params.toList args.toList ds p := hA0
  rw [Try.params4] at hA hval
  obtain ⟨v0, vs0, d0, ds0, p0, q0, hargs, rfl, rfl, h0, r0⟩ := trodAll_cons hA
  obtain ⟨rfl, rfl, rfl⟩ := trodAll_nil r0
  obtain rfl : args = #[v0] := by cases args; simp_all
  obtain ⟨rfl, rfl⟩ := trodVars_none hV
  obtain ⟨a0, len0, cap0, rfl⟩ := okWide_slice Try.underlying22 (hval 0 22 v0 rfl rfl)
  have k0 := h0
  have lt0 : ∀ x ∈ p0, x.block < W.heap.size := by obtain ⟨m, hm⟩ := k0; exact DataW.trod_lt m _ _ _ hm
  obtain ⟨z0, w0⟩ : ∃ zs, IsRow .u8 W a0 len0 cap0 zs := by
    obtain ⟨fuel, hf⟩ := h0
    rcases open_ints Try.underlying22 Try.underlying5 (by kernel_rfl) hf with ⟨hcs, _⟩ | ⟨x, l, c, zs, hcs, _, hl, hm, hz, _, hcell, hwz⟩
    · simp [Value.cells] at hcs
      obtain ⟨rfl, rfl, rfl⟩ := hcs
      exact ⟨[], .inl ⟨rfl, rfl, rfl, rfl⟩⟩
    · simp [Value.cells] at hcs
      obtain ⟨rfl, rfl, rfl⟩ := hcs
      exact ⟨zs, .inr ⟨_, rfl, hl, hm, by simpa using hz, hcell, hwz⟩⟩
  clear hA0 hval0
  refine (walk a0 len0 cap0 z0 W w0).mono fun e W' ⟨he, bel⟩ => ?_
  subst he
  exact ⟨_, rfl, _, _, _, [], _, [], hW', trodAll_mk1 (shut_bool Try.underlying4 _), (trodAll_cons_mk (Below.trod laidOut (by kernel_rfl) (of_decide_eq_true (by kernel_rfl)) k0 bel lt0) trodAll_mk0), rfl, bel.frame _, fun h => by cases h⟩

theorem over : Rows.fnTurnedCmdRow.holds Try.pinned (OpenSpec.ofChange Rows.fnTurnedCmdSpec) :=
  OpenClaim.holds_of_wide 4 Try.f4 rfl rfl rfl rfl rfl rfl rfl ⟨rfl, rfl, rfl, rfl, rfl⟩ rfl rfl rfl rfl rfl (by kernel_rfl) Try.func4 (by kernel_rfl)
    (of_decide_eq_true (by kernel_rfl)) (by unfold Func.isWrapper; first | (rw [if_pos (by decide +kernel)]; kernel_rfl) | (rw [if_neg (by decide +kernel)]; exact ⟨rfl, rfl⟩))
    (fun os started H enc _ => lifted os started H enc)

theorem proved : Rows.FnTurnedCmdSaid := over
end Go.Proofs.Ytcphnnibhlmajaa.fnTurnedCmd
namespace Go.Proofs.Ytcphnnibhlmajaa
theorem fnTurnedCmd_holds : Rows.FnTurnedCmdSaid := fnTurnedCmd.proved
end Go.Proofs.Ytcphnnibhlmajaa
