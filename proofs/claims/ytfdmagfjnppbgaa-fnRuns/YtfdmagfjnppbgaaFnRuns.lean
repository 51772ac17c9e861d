/- At every list of bytes the law FnRuns returns true: the runs of the set that is drawn of it are that set piece by piece, none beside another one. -/
import Derived.Test.YtfdmagfjnppbgaaRows
import Derived.WalkKit
import Derived.ProofKit
import Derived.OpenShut
import Derived.ShutString
import Derived.ChangeOld
import Derived.Below
import Derived.Test.YtfdmagfjnppbgaaRunLaws
import Derived.Test.YtfdmagfjnppbgaaLike
import Derived.Test.YtfdmagfjnppbgaaWith
import Derived.Test.YtfdmagfjnppbgaaDrawSets
namespace Go.Proofs.Ytfdmagfjnppbgaa.fnRuns
open Go.ChangeShapes Go.WideShapes Go.ChangeAt Go.RowKit
open Go.ChangeMaps (open_string shut_string)
set_option linter.unusedVariables false

theorem own : ownKnob Try.prog.godebug = none := by kernel_rfl
theorem laidOut : laidOutB Try.prog = true := by kernel_rfl

def IsRow (k : IntKind) (w : World) (a : Option Addr) (len cap : Nat) (zs : List Int) : Prop :=
  (a = none ∧ len = 0 ∧ cap = 0 ∧ zs = []) ∨
  ∃ x, a = some x ∧ len ≤ cap ∧ cap ≤ maxLen ∧ zs.length = cap ∧ (∀ i, i < zs.length → w.cell? (x.add i) = some (.int k (zs.getD i 0))) ∧ ∀ n ∈ zs, (Lit.int k n).wf = true

set_option maxRecDepth 20000 in
set_option maxHeartbeats 2000000 in
theorem walk (a0 : Option Addr) (len0 cap0 : Nat) (z0 : List Int) (w : World) (w0 : IsRow .u8 w a0 len0 cap0 z0) :
    Calls Try.prog 4 #[.slice a0 len0 cap0] w fun e w' => e = .returned (.bool true) ∧ Below w.heap.size w w' := by
  by_cases hbig : (4096 : Int) < (len0 : Int)
  · go_enter Try.func4, Try.ntmps4
    go_wp2_with (go_at_call 11; refine (big_any _ _ _ _).mono ?_; rintro e w' ⟨rfl, rfl⟩)
    go_ret
    exact ⟨rfl, Below.refl _ _⟩
  · have hcode : CodeOk w w.heap.size (.slice a0 len0 cap0) := codeOk_row w0 (by omega)
    have HC : Hid (CodeOk w w.heap.size (.slice a0 len0 cap0)) := hcode
    clear hcode w0
    go_enter Try.func4, Try.ntmps4
    go_wp2_with (first
      | (go_at_call 11; refine (big_any _ _ _ _).mono ?_; rintro e w' ⟨rfl, hw'⟩; subst w'))
    refine (drawRuns_any _ _ _ HC.out (Nat.le_refl _)).mono ?_
    rintro e w1 ⟨s, rfl, b1⟩
    clear HC
    have hl : (runsI s).length ≤ 1099511627776 := by have := runsI_len s; omega
    go_wp2_with fail
    refine (runs_any s _).mono ?_
    rintro e w2 ⟨v, rfl, o2, b2⟩
    go_wp2_with fail
    refine (sruns_any s _).mono ?_
    rintro e w3 ⟨v', rfl, o3, b3⟩
    have o2' := o2.below b3
    go_wp2_with fail
    refine (like_any v v' _ _ _ o2'.reads o3.reads hl).mono ?_
    rintro e w4 ⟨rfl, n1, rfl⟩
    have he : decide (runsI s = runsI s) = true := by simp
    rw [he]
    clear he
    have HB : Hid (Below w.heap.size w (w3.drewN n1)) := below_drewN ((b1.trans (b2.mono b1.size)).trans (b3.mono (b1.trans (b2.mono b1.size)).size)) n1
    have HR : Hid (Reads (w3.drewN n1) v (runsI s)) := (o2'.drewN n1).reads
    obtain ⟨W, hW⟩ : ∃ W, W = w3.drewN n1 := ⟨_, rfl⟩
    rw [← hW] at HB HR ⊢
    clear hW b1 b2 b3 o2 o2' o3
    by_cases hs : 0 ≤ s ∧ s < 256
    · have hq := runs_law s hs.1 hs.2
      obtain ⟨ao, cap, rfl, hl1, hl2, hl3⟩ := HR.out
      obtain ⟨n, hn⟩ : ∃ n, n = (runsI s).length := ⟨_, rfl⟩
      have h16 := runsI_len s
      rw [← hn] at h16 hl hl1 HR ⊢
      have HQ : Hid (n = (runsI s).length ∧ setAt s (n / 2) = s ∧ ∀ j : Nat, 2 * j < n → (lastAt s j < runA s j ∧ 0 ≤ runA s j ∧ runA s j ≤ 8 ∧ 1 ≤ runC s j ∧ runC s j ≤ 8)) := by
        rw [hn]; exact ⟨rfl, hq.2⟩
      have hp : ((n : Int) % 2 != 0) = false := by
        have := hq.1
        rw [← hn] at this
        simp; omega
      have HP : Hid (n % 2 = 0) := by have := hq.1; rw [← hn] at this; exact this
      have hcell : ∀ j, 2 * j < n → ∃ b off, ao = some ⟨b, off, none⟩ ∧ W.cell? ⟨b, off + 2 * j, none⟩ = some (.int .i64 (runA s j)) ∧ W.cell? ⟨b, off + (2 * j + 1), none⟩ = some (.int .i64 (runC s j)) := by
        intro j hj
        rcases hl3 with e | ⟨b, off, e, h4⟩
        · rw [e] at hn; simp at hn; omega
        · have h5 := HP.out
          exact ⟨b, off, e, h4 (2 * j) (by omega), h4 (2 * j + 1) (by omega)⟩
      have HCELL : Hid (∀ j, 2 * j < n → ∃ b off, ao = some ⟨b, off, none⟩ ∧ W.cell? ⟨b, off + 2 * j, none⟩ = some (.int .i64 (runA s j)) ∧ W.cell? ⟨b, off + (2 * j + 1), none⟩ = some (.int .i64 (runC s j))) := hcell
      clear hq hl3 HR hcell hn hl1 hl2
      go_wp2
      go_loopw [5, 6, 7] (fun st la i wr => ∃ m j q : Nat, m ≤ n ∧ i = .int .i64 m ∧ Hid (m = 2 * j) ∧ st = .int .i64 (setAt s j) ∧ la = .int .i64 (lastAt s j) ∧ wr = W.drewN q) (fun _ _ i _ => n - (intOf i).toNat)
      case atStart => exact ⟨0, 0, 0, Nat.zero_le _, rfl, rfl, rfl, rfl, rfl⟩
      case round =>
        obtain ⟨m, j, q, hm, rfl, hmj, rfl, rfl, rfl⟩ := hrel
        by_cases hlt : (m : Int) < (n : Int)
        · have hmj' := hmj.out
          obtain ⟨b, off, rfl, hc1, hc2⟩ := HCELL.out j (by omega)
          obtain ⟨f1, f2, f3, f4, f5⟩ := HQ.out.2.2 j (by omega)
          have hm1 : (m : Int) + 1 < (n : Int) := by have := HP.out; omega
          rw [← hmj'] at hc1 hc2
          obtain ⟨A, hA⟩ : ∃ A, A = runA s j := ⟨_, rfl⟩
          obtain ⟨C, hC⟩ : ∃ C, C = runC s j := ⟨_, rfl⟩
          obtain ⟨L, hL⟩ : ∃ L, L = lastAt s j := ⟨_, rfl⟩
          obtain ⟨S, hS⟩ : ∃ S, S = setAt s j := ⟨_, rfl⟩
          have HS1 : Hid (setAt s (j + 1) = addN S A C.toNat ∧ lastAt s (j + 1) = A + C) := by rw [hA, hC, hS]; exact ⟨rfl, rfl⟩
          rw [← hA] at hc1 f1 f2 f3
          rw [← hC] at hc2 f4 f5
          rw [← hL] at f1 ⊢
          rw [← hS]
          clear hA hC hL hS hmj' HCELL
          go_wp2
          go_loop [5, 8] (fun st k => ∃ p : Nat, (p : Int) ≤ C ∧ k = .int .i64 p ∧ st = .int .i64 (addN S A p)) (fun _ k => (C - intOf k).toNat)
          case atStart => exact ⟨0, by omega, rfl, rfl⟩
          case round =>
            obtain ⟨p, hpc, rfl, rfl⟩ := hrel
            by_cases hpl : (p : Int) < C
            · go_wp2_with (go_at_call 17; refine (swith_any _ _ _).mono ?_; rintro e w' ⟨rfl, hw'⟩; subst w')
              go_round
              case rel => exact ⟨p + 1, by omega, by go_num, rfl⟩
              case measure => simp [intOf]; omega
            · go_wp2
              go_quiet (fail)
              go_wp2
              go_roundw
              case rel =>
                have e : C.toNat = p := by omega
                have h1 := HS1.out
                rw [e] at h1
                exact ⟨m + 2, j + 1, _, by omega, by go_num, (by have := hmj.out; show m + 2 = 2 * (j + 1); omega), by rw [h1.1], by rw [h1.2], rfl⟩
              case measure => simp [intOf]; omega
        · have hjn : setAt s j = s := by
            have h1 := HQ.out.2.1
            have h2 := hmj.out
            have h3 : n / 2 = j := by omega
            rwa [h3] at h1
          rw [hjn]
          go_wp2
          go_ret
          exact ⟨rfl, below_drewN HB.out _⟩
    · have hs' : s < 0 ∨ 256 ≤ s := by omega
      have e : runsI s = [] := by simp [runsI, setOk_neg hs']
      rw [e] at HR
      obtain ⟨ao, cap, rfl, hl1, hl2, hl3⟩ := HR.out
      have hs2 : s < 0 ∨ (¬ s < 0 ∧ 255 < s) := by omega
      have hz : ((0 : Int) == s) = false := by simp; omega
      clear HR hl e hl1 hl2 hl3 hs hs'
      simp only [List.length_nil]
      rcases hs2 with h1 | ⟨h1, h2⟩
      all_goals
        go_wp2
        go_loop [5, 6, 7] (fun st la i => i = .int .i64 0 ∧ st = .int .i64 0 ∧ la = .int .i64 (-1)) (fun _ _ _ => 0)
        case atStart => exact ⟨rfl, rfl, rfl⟩
        case round =>
          obtain ⟨rfl, rfl, rfl⟩ := hrel
          go_wp2
          go_ret
          exact ⟨rfl, HB.out⟩

set_option maxRecDepth 100000 in
theorem lifted (os : Os) (started : os.Started) (H : Type) (enc : TypeId × Value → H) :
    ReturnsInHanded {} Try.checked os 4 .any (Rows.fnRunsSpec.pre6 enc Try.prog Try.f4 Rows.fnRunsRow.domain false) (Rows.fnRunsSpec.post enc Try.prog Try.f4 false true false false) := by
  refine returnsInHanded_of_change (C := Try.checked) own started (by kernel_rfl) Try.func4
    (ChangeSpec.witness6 (enc := enc) (C := Try.checked) false ⟨#[], #[.slice none 0 0], []⟩ 8 (by kernel_rfl) (by kernel_rfl) (by kernel_rfl) (by kernel_rfl)) ?_
  intro W base args ds gs before hval0 hW hcnd _
  have hval : ∀ (j : Nat) t v, Try.f4.params[j]? = some t → args[j]? = some v → Value.okWide Try.prog W .any base t v := hval0
  have hW' := hW
  obtain ⟨p, q, hA0, hV, rfl, hfz, hnd⟩ := hW
  have hA : DataW.TrodAll enc Try.prog W 0 (fun _ => true) true Try.f4.params.toList args.toList ds p := hA0
  rw [Try.params4] at hA hval
  obtain ⟨v0, vs0, d0, ds0, p0, q0, hargs, rfl, rfl, h0, r0⟩ := trodAll_cons hA
  obtain ⟨rfl, rfl, rfl⟩ := trodAll_nil r0
  obtain rfl : args = #[v0] := by cases args; simp_all
  obtain ⟨rfl, rfl⟩ := trodVars_none hV
  obtain ⟨a0, len0, cap0, rfl⟩ := okWide_slice Try.underlying22 (hval 0 22 v0 rfl rfl)
  have k0 := h0
  have lt0 : ∀ x ∈ p0, x.block < W.heap.size := by obtain ⟨m, hm⟩ := k0; exact DataW.trod_lt m _ _ _ hm
  obtain ⟨z0, w0⟩ : ∃ zs, IsRow .u8 W a0 len0 cap0 zs := by
    obtain ⟨fuel, hf⟩ := h0
    rcases open_ints Try.underlying22 Try.underlying5 (by kernel_rfl) hf with ⟨hcs, _⟩ | ⟨x, l, c, zs, hcs, _, hl, hm, hz, _, hcell, hwz⟩
    · simp [Value.cells] at hcs
      obtain ⟨rfl, rfl, rfl⟩ := hcs
      exact ⟨[], .inl ⟨rfl, rfl, rfl, rfl⟩⟩
    · simp [Value.cells] at hcs
      obtain ⟨rfl, rfl, rfl⟩ := hcs
      exact ⟨zs, .inr ⟨_, rfl, hl, hm, by simpa using hz, hcell, hwz⟩⟩
  clear hA0 hval0
  refine (walk a0 len0 cap0 z0 W w0).mono fun e W' ⟨he, bel⟩ => ?_
  subst he
  exact ⟨_, rfl, _, _, _, [], _, [], hW', trodAll_mk1 (shut_bool Try.underlying4 _), (trodAll_cons_mk (Below.trod laidOut (by kernel_rfl) (of_decide_eq_true (by kernel_rfl)) k0 bel lt0) trodAll_mk0), rfl, bel.frame _, fun h => by cases h⟩

theorem over : Rows.fnRunsRow.holds Try.pinned (OpenSpec.ofChange Rows.fnRunsSpec) :=
  OpenClaim.holds_of_wide 4 Try.f4 rfl rfl rfl rfl rfl rfl rfl ⟨rfl, rfl, rfl, rfl, rfl⟩ rfl rfl rfl rfl rfl (by kernel_rfl) Try.func4 (by kernel_rfl)
    (of_decide_eq_true (by kernel_rfl)) (by unfold Func.isWrapper; first | (rw [if_pos (by decide +kernel)]; kernel_rfl) | (rw [if_neg (by decide +kernel)]; exact ⟨rfl, rfl⟩))
    (fun os started H enc _ => lifted os started H enc)

theorem proved : Rows.FnRunsSaid := over
end Go.Proofs.Ytfdmagfjnppbgaa.fnRuns
namespace Go.Proofs.Ytfdmagfjnppbgaa
theorem fnRuns_holds : Rows.FnRunsSaid := fnRuns.proved
end Go.Proofs.Ytfdmagfjnppbgaa
