/- At every list of bytes the law FnSets returns true: of the set and the block that are drawn of it, one that is put in or taken out changes no other, and the first is the least. -/
import Derived.Test.YtfdmagfjnppbgaaRows
import Derived.WalkKit
import Derived.ProofKit
import Derived.OpenShut
import Derived.ShutString
import Derived.ChangeOld
import Derived.Below
import Derived.Test.YtfdmagfjnppbgaaSetLaws
import Derived.Test.YtfdmagfjnppbgaaIn
import Derived.Test.YtfdmagfjnppbgaaWith
import Derived.Test.YtfdmagfjnppbgaaSeek
import Derived.Test.YtfdmagfjnppbgaaDrawSets
namespace Go.Proofs.Ytfdmagfjnppbgaa.fnSets
open Go.ChangeShapes Go.WideShapes Go.ChangeAt Go.RowKit
open Go.ChangeMaps (open_string shut_string)
set_option linter.unusedVariables false

theorem own : ownKnob Try.prog.godebug = none := by kernel_rfl
theorem laidOut : laidOutB Try.prog = true := by kernel_rfl

def IsRow (k : IntKind) (w : World) (a : Option Addr) (len cap : Nat) (zs : List Int) : Prop :=
  (a = none ∧ len = 0 ∧ cap = 0 ∧ zs = []) ∨
  ∃ x, a = some x ∧ len ≤ cap ∧ cap ≤ maxLen ∧ zs.length = cap ∧ (∀ i, i < zs.length → w.cell? (x.add i) = some (.int k (zs.getD i 0))) ∧ ∀ n ∈ zs, (Lit.int k n).wf = true

set_option maxRecDepth 20000 in
set_option maxHeartbeats 2000000 in
theorem walk (a0 : Option Addr) (len0 cap0 : Nat) (z0 : List Int) (w : World) (w0 : IsRow .u8 w a0 len0 cap0 z0) :
    Calls Try.prog 3 #[.slice a0 len0 cap0] w fun e w' => e = .returned (.bool true) ∧ Below w.heap.size w w' := by
  by_cases hbig : (4096 : Int) < (len0 : Int)
  · go_enter Try.func3, Try.ntmps3
    go_wp2_with (go_at_call 11; refine (big_any _ _ _ _).mono ?_; rintro e w' ⟨rfl, hw'⟩; subst w')
    go_ret
    exact ⟨rfl, Below.refl _ _⟩
  · have hcode : CodeOk w w.heap.size (.slice a0 len0 cap0) := codeOk_row w0 (by omega)
    have HC : Hid (CodeOk w w.heap.size (.slice a0 len0 cap0)) := hcode
    clear hcode w0
    go_enter Try.func3, Try.ntmps3
    go_wp2_with (first
      | (go_at_call 11; refine (big_any _ _ _ _).mono ?_; rintro e w' ⟨rfl, hw'⟩; subst w'))
    refine (drawWith_any _ _ _ HC.out (Nat.le_refl _)).mono ?_
    rintro e w1 ⟨s, i, rfl, b1⟩
    have HC1 : Hid (CodeOk w1 w.heap.size (.slice a0 len0 cap0) ∧ Below w.heap.size w w1) := ⟨HC.out.below b1, b1⟩
    clear HC
    go_wp2_with (first
      | (go_at_call 13; refine (with_any _ _ _).mono ?_; rintro e w' ⟨rfl, hw'⟩; subst w')
      | (go_at_call 14; refine (without_any _ _ _).mono ?_; rintro e w' ⟨rfl, hw'⟩; subst w')
      | (go_at_call 15; refine (first_any _ _).mono ?_; rintro e w' ⟨rfl, hw'⟩; subst w'))
    refine (drawFull_any _ _ _ HC1.out.1 HC1.out.2.size).mono ?_
    rintro e w2 ⟨n, rfl, b2⟩
    have HB : Hid (Below w.heap.size w w2) := HC1.out.2.trans (b2.mono HC1.out.2.size)
    clear HC1 b1 b2
    by_cases hx : withI s i < 0
    · have hno : s < 0 ∨ 256 ≤ s := by
        by_cases hs : 0 ≤ s ∧ s < 256
        · exfalso
          have e := with_nonneg hs.1 hs.2 (i := i)
          omega
        · omega
      have e1 := withI_noset (i := i) hno
      have e2 := withoutI_noset (i := i) hno
      have e3 := firstI_noset hno
      rw [e1, e2, e3]
      clear hx hno
      go_wp2_with (first
        | (go_at_call 17; refine (swith_any _ _ _).mono ?_; rintro e w' ⟨rfl, hw'⟩; subst w')
        | (go_at_call 18; refine (swithout_any _ _ _).mono ?_; rintro e w' ⟨rfl, hw'⟩; subst w')
        | (go_at_call 21; refine (sfirst_any _ _).mono ?_; rintro e w' ⟨rfl, hw'⟩; subst w')
        | (go_at_call 19; refine (in_any _ _ _).mono ?_; rintro e w' ⟨rfl, hw'⟩; subst w')
        | (go_at_call 20; refine (sin_any _ _ _).mono ?_; rintro e w' ⟨rfl, hw'⟩; subst w')
        | (go_at_call 22; refine (full_any _ _).mono ?_; rintro e w' ⟨rfl, hw'⟩; subst w')
        | (go_at_call 23; refine (sfull_any _ _).mono ?_; rintro e w' ⟨rfl, hw'⟩; subst w'))
      go_ret
      exact ⟨rfl, HB.out⟩
    · have hok := withI_ok (s := s) (i := i) (by omega)
      go_wp2_with (first
        | (go_at_call 17; refine (swith_any _ _ _).mono ?_; rintro e w' ⟨rfl, hw'⟩; subst w')
        | (go_at_call 18; refine (swithout_any _ _ _).mono ?_; rintro e w' ⟨rfl, hw'⟩; subst w')
        | (go_at_call 21; refine (sfirst_any _ _).mono ?_; rintro e w' ⟨rfl, hw'⟩; subst w')
        | (go_at_call 19; refine (in_any _ _ _).mono ?_; rintro e w' ⟨rfl, hw'⟩; subst w')
        | (go_at_call 20; refine (sin_any _ _ _).mono ?_; rintro e w' ⟨rfl, hw'⟩; subst w')
        | (go_at_call 22; refine (full_any _ _).mono ?_; rintro e w' ⟨rfl, hw'⟩; subst w')
        | (go_at_call 23; refine (sfull_any _ _).mono ?_; rintro e w' ⟨rfl, hw'⟩; subst w'))
      have hfl := fun k => first_least (s := s) (k := k)
      have hfi := first_in (s := s)
      have hfn := fun h => first_none (s := s) h hok.1 hok.2
      have HF : Hid ((∀ k, inB s k = true → 0 ≤ firstI s ∧ ¬ k < firstI s) ∧ (0 ≤ firstI s → inB s (firstI s) = true) ∧ (firstI s < 0 → s = 0)) := ⟨hfl, hfi, hfn⟩
      clear hfl hfi hfn
      go_loop [9] (fun t => ∃ k : Int, -1 ≤ k ∧ k ≤ 9 ∧ t = .int .i64 k) (fun t => (9 - intOf t).toNat)
      case atStart => exact ⟨-1, by omega, by omega, rfl⟩
      case round =>
        obtain ⟨k, hk0, hk9, rfl⟩ := hrel
        by_cases hlt : k < 9
        · have e1 := with_in (i := i) hok.1 hok.2 k
          have e2 := without_in (i := i) hok.1 hok.2 k
          have hf := HF.out.1 k
          clear hok hx
          have HX : (inB s k = true ∧ ¬ k < firstI s ∧ inB (withI s i) k = true ∧ (k == i) = true ∧ (k != i) = false ∧ inB (withoutI s i) k = false) ∨
              (inB s k = true ∧ ¬ k < firstI s ∧ inB (withI s i) k = true ∧ (k == i) = false ∧ (k != i) = true ∧ inB (withoutI s i) k = true) ∨
              (inB s k = false ∧ True ∧ inB (withI s i) k = false ∧ (k == i) = false ∧ (k != i) = true ∧ inB (withoutI s i) k = false) ∨
              (inB s k = false ∧ (0 ≤ i ∧ i < 8) ∧ inB (withI s i) k = true ∧ (k == i) = true ∧ (k != i) = false ∧ inB (withoutI s i) k = false) ∨
              (inB s k = false ∧ ¬ 0 ≤ i ∧ inB (withI s i) k = false ∧ (k == i) = true ∧ (k != i) = false ∧ inB (withoutI s i) k = false) ∨
              (inB s k = false ∧ (0 ≤ i ∧ ¬ i < 8) ∧ inB (withI s i) k = false ∧ (k == i) = true ∧ (k != i) = false ∧ inB (withoutI s i) k = false) := by
            by_cases hki : k = i
            · have q1 : (k == i) = true := by simp [hki]
              have q2 : (k != i) = false := by simp [hki]
              cases hb : inB s k with
              | true => exact .inl ⟨rfl, (hf hb).2, by rw [e1, hb]; rfl, q1, q2, by rw [e2, q2]; simp⟩
              | false =>
                have e2' : inB (withoutI s i) k = false := by rw [e2, hb]; rfl
                by_cases hi0 : 0 ≤ i
                · by_cases hi8 : i < 8
                  · exact .inr (.inr (.inr (.inl ⟨rfl, ⟨hi0, hi8⟩, by rw [e1, hb, q1]; simp [hi0, hi8], q1, q2, e2'⟩)))
                  · exact .inr (.inr (.inr (.inr (.inr ⟨rfl, ⟨hi0, hi8⟩, by rw [e1, hb, q1]; simp [hi8], q1, q2, e2'⟩))))
                · exact .inr (.inr (.inr (.inr (.inl ⟨rfl, hi0, by rw [e1, hb, q1]; simp [hi0], q1, q2, e2'⟩))))
            · have q1 : (k == i) = false := by simp [hki]
              have q2 : (k != i) = true := by simp [hki]
              cases hb : inB s k with
              | true => exact .inr (.inl ⟨rfl, (hf hb).2, by rw [e1, hb]; rfl, q1, q2, by rw [e2, q2, hb]; rfl⟩)
              | false => exact .inr (.inr (.inl ⟨rfl, trivial, by rw [e1, hb, q1]; rfl, q1, q2, by rw [e2, hb]; rfl⟩))
          have HN : (¬ 0 ≤ fullI n ∧ True) ∨ (0 ≤ fullI n ∧ ¬ 0 ≤ k ∧ inB (fullI n) k = false) ∨ (0 ≤ fullI n ∧ (0 ≤ k ∧ k < n) ∧ inB (fullI n) k = true) ∨ (0 ≤ fullI n ∧ (0 ≤ k ∧ ¬ k < n) ∧ inB (fullI n) k = false) := by
            by_cases hF : 0 ≤ fullI n
            · have e3 := full_in hF k
              by_cases h0 : 0 ≤ k
              · by_cases hn : k < n
                · exact .inr (.inr (.inl ⟨hF, ⟨h0, hn⟩, by rw [e3]; simp [h0, hn]⟩))
                · exact .inr (.inr (.inr ⟨hF, ⟨h0, hn⟩, by rw [e3]; simp [hn]⟩))
              · exact .inr (.inl ⟨hF, h0, by rw [e3]; simp [h0]⟩)
            · exact .inl ⟨hF, trivial⟩
          clear e1 e2 hf
          rcases HX with ⟨x1, x2, x3, x4, x5, x6⟩ | ⟨x1, x2, x3, x4, x5, x6⟩ | ⟨x1, x2, x3, x4, x5, x6⟩ | ⟨x1, ⟨x2, x2'⟩, x3, x4, x5, x6⟩ | ⟨x1, x2, x3, x4, x5, x6⟩ | ⟨x1, ⟨x2, x2'⟩, x3, x4, x5, x6⟩
          all_goals
            rcases HN with ⟨n1, n2⟩ | ⟨n1, n2, n3⟩ | ⟨n1, ⟨n2, n2'⟩, n3⟩ | ⟨n1, ⟨n2, n2'⟩, n3⟩
          all_goals
            go_wp2_with (first | (go_at_call 19; refine (in_any _ _ _).mono ?_; rintro e w' ⟨rfl, hw'⟩; subst w') | (go_at_call 22; refine (full_any _ _).mono ?_; rintro e w' ⟨rfl, hw'⟩; subst w'))
            go_round
            case rel => exact ⟨k + 1, by omega, by omega, rfl⟩
            case measure => simp [intOf]; omega
        · have hfc : (0 ≤ firstI s ∧ inB s (firstI s) = true) ∨ (firstI s < 0 ∧ s = 0) := by
            by_cases h : 0 ≤ firstI s
            · exact .inl ⟨h, HF.out.2.1 h⟩
            · exact .inr ⟨by omega, HF.out.2.2 (by omega)⟩
          rcases hfc with ⟨h1, h2⟩ | ⟨h1, h2⟩
          · have h1' : ¬ firstI s < 0 := by omega
            clear h1
            go_wp2_with (go_at_call 19; refine (in_any _ _ _).mono ?_; rintro e w' ⟨rfl, hw'⟩; subst w')
            go_ret
            exact ⟨rfl, HB.out⟩
          · have h2' : (s == 0) = true := by simp [h2]
            clear h2
            go_wp2_with (go_at_call 19; refine (in_any _ _ _).mono ?_; rintro e w' ⟨rfl, hw'⟩; subst w')
            go_ret
            exact ⟨rfl, HB.out⟩

set_option maxRecDepth 100000 in
theorem lifted (os : Os) (started : os.Started) (H : Type) (enc : TypeId × Value → H) :
    ReturnsInHanded {} Try.checked os 3 .any (Rows.fnSetsSpec.pre6 enc Try.prog Try.f3 Rows.fnSetsRow.domain false) (Rows.fnSetsSpec.post enc Try.prog Try.f3 false true false false) := by
  refine returnsInHanded_of_change (C := Try.checked) own started (by kernel_rfl) Try.func3
    (ChangeSpec.witness6 (enc := enc) (C := Try.checked) false ⟨#[], #[.slice none 0 0], []⟩ 8 (by kernel_rfl) (by kernel_rfl) (by kernel_rfl) (by kernel_rfl)) ?_
  intro W base args ds gs before hval0 hW hcnd _
  have hval : ∀ (j : Nat) t v, Try.f3.params[j]? = some t → args[j]? = some v → Value.okWide Try.prog W .any base t v := hval0
  have hW' := hW
  obtain ⟨p, q, hA0, hV, rfl, hfz, hnd⟩ := hW
  have hA : DataW.TrodAll enc Try.prog W 0 (fun _ => true) true Try.f3.params.toList args.toList ds p := hA0
  rw [Try.params3] at hA hval
  obtain ⟨v0, vs0, d0, ds0, p0, q0, hargs, rfl, rfl, h0, r0⟩ := trodAll_cons hA
  obtain ⟨rfl, rfl, rfl⟩ := trodAll_nil r0
  obtain rfl : args = #[v0] := by cases args; simp_all
  obtain ⟨rfl, rfl⟩ := trodVars_none hV
  obtain ⟨a0, len0, cap0, rfl⟩ := okWide_slice Try.underlying22 (hval 0 22 v0 rfl rfl)
  have k0 := h0
  have lt0 : ∀ x ∈ p0, x.block < W.heap.size := by obtain ⟨m, hm⟩ := k0; exact DataW.trod_lt m _ _ _ hm
  obtain ⟨z0, w0⟩ : ∃ zs, IsRow .u8 W a0 len0 cap0 zs := by
    obtain ⟨fuel, hf⟩ := h0
    rcases open_ints Try.underlying22 Try.underlying5 (by kernel_rfl) hf with ⟨hcs, _⟩ | ⟨x, l, c, zs, hcs, _, hl, hm, hz, _, hcell, hwz⟩
    · simp [Value.cells] at hcs
      obtain ⟨rfl, rfl, rfl⟩ := hcs
      exact ⟨[], .inl ⟨rfl, rfl, rfl, rfl⟩⟩
    · simp [Value.cells] at hcs
      obtain ⟨rfl, rfl, rfl⟩ := hcs
      exact ⟨zs, .inr ⟨_, rfl, hl, hm, by simpa using hz, hcell, hwz⟩⟩
  clear hA0 hval0
  refine (walk a0 len0 cap0 z0 W w0).mono fun e W' ⟨he, bel⟩ => ?_
  subst he
  exact ⟨_, rfl, _, _, _, [], _, [], hW', trodAll_mk1 (shut_bool Try.underlying4 _), (trodAll_cons_mk (Below.trod laidOut (by kernel_rfl) (of_decide_eq_true (by kernel_rfl)) k0 bel lt0) trodAll_mk0), rfl, bel.frame _, fun h => by cases h⟩

theorem over : Rows.fnSetsRow.holds Try.pinned (OpenSpec.ofChange Rows.fnSetsSpec) :=
  OpenClaim.holds_of_wide 3 Try.f3 rfl rfl rfl rfl rfl rfl rfl ⟨rfl, rfl, rfl, rfl, rfl⟩ rfl rfl rfl rfl rfl (by kernel_rfl) Try.func3 (by kernel_rfl)
    (of_decide_eq_true (by kernel_rfl)) (by unfold Func.isWrapper; first | (rw [if_pos (by decide +kernel)]; kernel_rfl) | (rw [if_neg (by decide +kernel)]; exact ⟨rfl, rfl⟩))
    (fun os started H enc _ => lifted os started H enc)

theorem proved : Rows.FnSetsSaid := over
end Go.Proofs.Ytfdmagfjnppbgaa.fnSets
namespace Go.Proofs.Ytfdmagfjnppbgaa
theorem fnSets_holds : Rows.FnSetsSaid := fnSets.proved
end Go.Proofs.Ytfdmagfjnppbgaa
