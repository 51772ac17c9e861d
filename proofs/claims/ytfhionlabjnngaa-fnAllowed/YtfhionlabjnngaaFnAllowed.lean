/- At every list of bytes the law FnAllowed returns true: who holds it may, who may write may read, what is held by nobody bars nobody; and the program answers as the model. -/
import Derived.Test.YtfhionlabjnngaaRows
import Derived.WalkKit
import Derived.ProofKit
import Derived.OpenShut
import Derived.ShutString
import Derived.ChangeOld
import Derived.Below
import Derived.Test.YtfhionlabjnngaaDrawRule
import Derived.Test.YtfhionlabjnngaaIRule
import Derived.Test.YtfhionlabjnngaaSRule
namespace Go.Proofs.Ytfhionlabjnngaa.fnAllowed
open Go.ChangeShapes Go.WideShapes Go.ChangeAt Go.RowKit
open Go.ChangeMaps (open_string shut_string)
set_option linter.unusedVariables false

theorem own : ownKnob Try.prog.godebug = none := by kernel_rfl
theorem laidOut : laidOutB Try.prog = true := by kernel_rfl

def IsRow (k : IntKind) (w : World) (a : Option Addr) (len cap : Nat) (zs : List Int) : Prop :=
  (a = none ∧ len = 0 ∧ cap = 0 ∧ zs = []) ∨
  ∃ x, a = some x ∧ len ≤ cap ∧ cap ≤ maxLen ∧ zs.length = cap ∧ (∀ i, i < zs.length → w.cell? (x.add i) = some (.int k (zs.getD i 0))) ∧ ∀ n ∈ zs, (Lit.int k n).wf = true

set_option maxRecDepth 20000 in
set_option maxHeartbeats 8000000 in
theorem walk (a0 : Option Addr) (len0 cap0 : Nat) (z0 : List Int) (w : World) (w0 : IsRow .u8 w a0 len0 cap0 z0) :
    Calls Try.prog 3 #[.slice a0 len0 cap0] w fun e w' => e = .returned (.bool true) ∧ Below w.heap.size w w' := by
  by_cases hbig : (4096 : Int) < (len0 : Int)
  · go_enter Try.func3, Try.ntmps3
    go_wp2_with (go_at_call 8; refine (big_any _ _ _ _).mono ?_; rintro e w' ⟨rfl, hw'⟩; subst w')
    go_ret
    exact ⟨rfl, Below.refl _ _⟩
  · have HC : Hid (CodeOk w w.heap.size (.slice a0 len0 cap0)) := codeOk_row w0 (by omega)
    clear w0
    have HS : Hid (Below w.heap.size w w) := Below.refl _ _
    go_enter Try.func3, Try.ntmps3
    go_wp2_with fail
    refine (big_any _ _ _ _).mono ?_
    rintro e w' ⟨rfl, hw'⟩; subst w'
    go_wp2_with fail
    refine (drawAllowed_any w.heap.size _ _ (HC.out.below HS.out) HS.out.size).mono ?_
    rintro e w1 ⟨k, x, h, r, rfl, hk0, hk1, b1⟩
    replace HS : Hid (Below w.heap.size w w1) := HS.out.trans (b1.mono HS.out.size)
    clear b1
    have ca := fun wx => imay_any k x h r wx
    have cas := fun wx => smay_any k x h r wx
    have cf := fun wx => iall_any k wx
    have cfs := fun wx => sall_any k wx
    have ck := fun wx => ikind_any k wx
    have cks := fun wx => skind_any k wx
    have cbx := fun wx => ibars_any k x wx
    have cb0 := fun wx => ibars_any k false wx
    have cb1 := fun wx => ibars_any k true wx
    have ca1 := fun wx => imay_any k true h r wx
    have ca0 := fun wx => imay_any k false h r wx
    have cah := fun wx => imay_any k x true r wx
    have car := fun wx => imay_any k x h true wx
    have N1 : Hid (kiI k = false → allI k = false) := none_all k
    have N2 : Hid (kiI k = false → barsI k x = false) := none_bars k x
    have N3 : Hid (k ≠ 0 → kiI k = false → mayI k x h r = false) := none_may k x h r
    have N4 : Hid ((barsI k false && !barsI k true) = false) := barsI_le k
    have N5 : Hid ((mayI k true h r && !mayI k false h r) = false) := mayI_le k h r
    have N6 : Hid (kiI k = true → mayI k x true r = true) := mayI_holds k x r
    have N7 : Hid ((!allI k || mayI k x h true) = true) := mayI_all k x h
    have N8 : Hid (k = 0 → mayI k x h r = true) := fun e => by rw [e]; rfl
    obtain ⟨va, hva⟩ : ∃ va, va = mayI k x h r := ⟨_, rfl⟩
    simp only [← hva] at ca cas
    rw [← hva] at N3 N8
    obtain ⟨vf, hvf⟩ : ∃ vf, vf = allI k := ⟨_, rfl⟩
    simp only [← hvf] at cf cfs
    rw [← hvf] at N1 N7
    obtain ⟨vk, hvk⟩ : ∃ vk, vk = kiI k := ⟨_, rfl⟩
    simp only [← hvk] at ck cks
    rw [← hvk] at N1 N2 N3 N6
    obtain ⟨vb, hvb⟩ : ∃ vb, vb = barsI k x := ⟨_, rfl⟩
    simp only [← hvb] at cbx
    rw [← hvb] at N2
    obtain ⟨z0, hz0⟩ : ∃ z0, z0 = barsI k false := ⟨_, rfl⟩
    simp only [← hz0] at cb0
    rw [← hz0] at N4
    obtain ⟨z1, hz1⟩ : ∃ z1, z1 = barsI k true := ⟨_, rfl⟩
    simp only [← hz1] at cb1
    rw [← hz1] at N4
    obtain ⟨vt, hvt⟩ : ∃ vt, vt = mayI k true h r := ⟨_, rfl⟩
    simp only [← hvt] at ca1
    rw [← hvt] at N5
    obtain ⟨vn, hvn⟩ : ∃ vn, vn = mayI k false h r := ⟨_, rfl⟩
    simp only [← hvn] at ca0
    rw [← hvn] at N5
    obtain ⟨vh, hvh⟩ : ∃ vh, vh = mayI k x true r := ⟨_, rfl⟩
    simp only [← hvh] at cah
    rw [← hvh] at N6
    obtain ⟨vr, hvr⟩ : ∃ vr, vr = mayI k x h true := ⟨_, rfl⟩
    simp only [← hvr] at car
    rw [← hvr] at N7
    clear hva hvf hvk hvb hz0 hz1 hvt hvn hvh hvr
    go_wp2_with fail
    refine (ca _).mono ?_
    rintro e v1 ⟨rfl, b1⟩
    replace HS : Hid (Below w.heap.size w v1) := HS.out.trans (b1.mono HS.out.size)
    clear b1
    go_wp2_with fail
    refine (drawBars_any w.heap.size _ _ (HC.out.below HS.out) HS.out.size).mono ?_
    rintro e w2 ⟨d, y, rfl, hd0, hd1, b2⟩
    replace HS : Hid (Below w.heap.size w w2) := HS.out.trans (b2.mono HS.out.size)
    clear b2
    have cd := fun wx => ibars_any d y wx
    have cds := fun wx => sbars_any d y wx
    obtain ⟨vd, hvd⟩ : ∃ vd, vd = barsI d y := ⟨_, rfl⟩
    simp only [← hvd] at cd cds
    clear hvd
    go_wp2_with fail
    refine (cas _).mono ?_
    rintro e w' ⟨rfl, hw'⟩; subst w'
    go_wp2_with fail
    refine (cd _).mono ?_
    rintro e v3 ⟨rfl, b3⟩
    replace HS : Hid (Below w.heap.size w v3) := HS.out.trans (b3.mono HS.out.size)
    clear b3
    go_wp2_with fail
    refine (cds _).mono ?_
    rintro e w' ⟨rfl, hw'⟩; subst w'
    go_wp2_with fail
    refine (cf _).mono ?_
    rintro e v5 ⟨rfl, b5⟩
    replace HS : Hid (Below w.heap.size w v5) := HS.out.trans (b5.mono HS.out.size)
    clear b5
    go_wp2_with fail
    refine (cfs _).mono ?_
    rintro e w' ⟨rfl, hw'⟩; subst w'
    go_wp2_with fail
    refine (ck _).mono ?_
    rintro e v7 ⟨rfl, b7⟩
    replace HS : Hid (Below w.heap.size w v7) := HS.out.trans (b7.mono HS.out.size)
    clear b7
    go_wp2_with fail
    refine (cks _).mono ?_
    rintro e w' ⟨rfl, hw'⟩; subst w'
    by_cases h0 : k = 0
    · obtain rfl : va = true := N8.out h0
      go_wp2
      go_ret
      exact ⟨rfl, HS.out⟩
    · go_wp2_with fail
      refine (cks _).mono ?_
      rintro e w' ⟨rfl, hw'⟩; subst w'
      cases vk
      · obtain rfl : vf = false := N1.out rfl
        obtain rfl : vb = false := N2.out rfl
        obtain rfl : va = false := N3.out h0 rfl
        go_wp2_with fail
        refine (cbx _).mono ?_
        rintro e v10 ⟨rfl, b10⟩
        replace HS : Hid (Below w.heap.size w v10) := HS.out.trans (b10.mono HS.out.size)
        clear b10
        go_wp2_with fail
        refine (cf _).mono ?_
        rintro e v11 ⟨rfl, b11⟩
        replace HS : Hid (Below w.heap.size w v11) := HS.out.trans (b11.mono HS.out.size)
        clear b11
        go_wp2
        go_ret
        exact ⟨rfl, HS.out⟩
      · obtain rfl : vh = true := N6.out rfl
        go_wp2_with fail
        refine (cb0 _).mono ?_
        rintro e v12 ⟨rfl, b12⟩
        replace HS : Hid (Below w.heap.size w v12) := HS.out.trans (b12.mono HS.out.size)
        clear b12
        have M4 := N4.out
        cases z0
        · go_wp2_with fail
          refine (ca1 _).mono ?_
          rintro e v13 ⟨rfl, b13⟩
          replace HS : Hid (Below w.heap.size w v13) := HS.out.trans (b13.mono HS.out.size)
          clear b13
          have M5 := N5.out
          cases vt
          · go_wp2_with fail
            refine (cah _).mono ?_
            rintro e v14 ⟨rfl, b14⟩
            replace HS : Hid (Below w.heap.size w v14) := HS.out.trans (b14.mono HS.out.size)
            clear b14
            go_wp2_with fail
            refine (cf _).mono ?_
            rintro e v15 ⟨rfl, b15⟩
            replace HS : Hid (Below w.heap.size w v15) := HS.out.trans (b15.mono HS.out.size)
            clear b15
            have M7 := N7.out
            cases vf
            · go_wp2
              go_ret
              exact ⟨rfl, HS.out⟩
            · obtain rfl : vr = true := by simpa using M7
              go_wp2_with fail
              refine (car _).mono ?_
              rintro e v16 ⟨rfl, b16⟩
              replace HS : Hid (Below w.heap.size w v16) := HS.out.trans (b16.mono HS.out.size)
              clear b16
              go_wp2
              go_ret
              exact ⟨rfl, HS.out⟩
          · obtain rfl : vn = true := by simpa using M5
            go_wp2_with fail
            refine (ca0 _).mono ?_
            rintro e v17 ⟨rfl, b17⟩
            replace HS : Hid (Below w.heap.size w v17) := HS.out.trans (b17.mono HS.out.size)
            clear b17
            go_wp2_with fail
            refine (cah _).mono ?_
            rintro e v18 ⟨rfl, b18⟩
            replace HS : Hid (Below w.heap.size w v18) := HS.out.trans (b18.mono HS.out.size)
            clear b18
            go_wp2_with fail
            refine (cf _).mono ?_
            rintro e v19 ⟨rfl, b19⟩
            replace HS : Hid (Below w.heap.size w v19) := HS.out.trans (b19.mono HS.out.size)
            clear b19
            have M7 := N7.out
            cases vf
            · go_wp2
              go_ret
              exact ⟨rfl, HS.out⟩
            · obtain rfl : vr = true := by simpa using M7
              go_wp2_with fail
              refine (car _).mono ?_
              rintro e v20 ⟨rfl, b20⟩
              replace HS : Hid (Below w.heap.size w v20) := HS.out.trans (b20.mono HS.out.size)
              clear b20
              go_wp2
              go_ret
              exact ⟨rfl, HS.out⟩
        · obtain rfl : z1 = true := by simpa using M4
          go_wp2_with fail
          refine (cb1 _).mono ?_
          rintro e v21 ⟨rfl, b21⟩
          replace HS : Hid (Below w.heap.size w v21) := HS.out.trans (b21.mono HS.out.size)
          clear b21
          go_wp2_with fail
          refine (ca1 _).mono ?_
          rintro e v22 ⟨rfl, b22⟩
          replace HS : Hid (Below w.heap.size w v22) := HS.out.trans (b22.mono HS.out.size)
          clear b22
          have M5 := N5.out
          cases vt
          · go_wp2_with fail
            refine (cah _).mono ?_
            rintro e v23 ⟨rfl, b23⟩
            replace HS : Hid (Below w.heap.size w v23) := HS.out.trans (b23.mono HS.out.size)
            clear b23
            go_wp2_with fail
            refine (cf _).mono ?_
            rintro e v24 ⟨rfl, b24⟩
            replace HS : Hid (Below w.heap.size w v24) := HS.out.trans (b24.mono HS.out.size)
            clear b24
            have M7 := N7.out
            cases vf
            · go_wp2
              go_ret
              exact ⟨rfl, HS.out⟩
            · obtain rfl : vr = true := by simpa using M7
              go_wp2_with fail
              refine (car _).mono ?_
              rintro e v25 ⟨rfl, b25⟩
              replace HS : Hid (Below w.heap.size w v25) := HS.out.trans (b25.mono HS.out.size)
              clear b25
              go_wp2
              go_ret
              exact ⟨rfl, HS.out⟩
          · obtain rfl : vn = true := by simpa using M5
            go_wp2_with fail
            refine (ca0 _).mono ?_
            rintro e v26 ⟨rfl, b26⟩
            replace HS : Hid (Below w.heap.size w v26) := HS.out.trans (b26.mono HS.out.size)
            clear b26
            go_wp2_with fail
            refine (cah _).mono ?_
            rintro e v27 ⟨rfl, b27⟩
            replace HS : Hid (Below w.heap.size w v27) := HS.out.trans (b27.mono HS.out.size)
            clear b27
            go_wp2_with fail
            refine (cf _).mono ?_
            rintro e v28 ⟨rfl, b28⟩
            replace HS : Hid (Below w.heap.size w v28) := HS.out.trans (b28.mono HS.out.size)
            clear b28
            have M7 := N7.out
            cases vf
            · go_wp2
              go_ret
              exact ⟨rfl, HS.out⟩
            · obtain rfl : vr = true := by simpa using M7
              go_wp2_with fail
              refine (car _).mono ?_
              rintro e v29 ⟨rfl, b29⟩
              replace HS : Hid (Below w.heap.size w v29) := HS.out.trans (b29.mono HS.out.size)
              clear b29
              go_wp2
              go_ret
              exact ⟨rfl, HS.out⟩

set_option maxRecDepth 100000 in
theorem lifted (os : Os) (started : os.Started) (H : Type) (enc : TypeId × Value → H) :
    ReturnsInHanded {} Try.checked os 3 .any (Rows.fnAllowedSpec.pre6 enc Try.prog Try.f3 Rows.fnAllowedRow.domain false) (Rows.fnAllowedSpec.post enc Try.prog Try.f3 false true false false) := by
  refine returnsInHanded_of_change (C := Try.checked) own started (by kernel_rfl) Try.func3
    (ChangeSpec.witness6 (enc := enc) (C := Try.checked) false ⟨#[], #[.slice none 0 0], []⟩ 8 (by kernel_rfl) (by kernel_rfl) (by kernel_rfl) (by kernel_rfl)) ?_
  intro W base args ds gs before hval0 hW hcnd _
  have hval : ∀ (j : Nat) t v, Try.f3.params[j]? = some t → args[j]? = some v → Value.okWide Try.prog W .any base t v := hval0
  have hW' := hW
  obtain ⟨p, q, hA0, hV, rfl, hfz, hnd⟩ := hW
  have hA : DataW.TrodAll enc Try.prog W 0 (fun _ => true) true Try.f3.params.toList args.toList ds p := hA0
  rw [Try.params3] at hA hval
  obtain ⟨v0, vs0, d0, ds0, p0, q0, hargs, rfl, rfl, h0, r0⟩ := trodAll_cons hA
  obtain ⟨rfl, rfl, rfl⟩ := trodAll_nil r0
  obtain rfl : args = #[v0] := by cases args; simp_all
  obtain ⟨rfl, rfl⟩ := trodVars_none hV
  obtain ⟨a0, len0, cap0, rfl⟩ := okWide_slice Try.underlying22 (hval 0 22 v0 rfl rfl)
  have k0 := h0
  have lt0 : ∀ x ∈ p0, x.block < W.heap.size := by obtain ⟨m, hm⟩ := k0; exact DataW.trod_lt m _ _ _ hm
  obtain ⟨z0, w0⟩ : ∃ zs, IsRow .u8 W a0 len0 cap0 zs := by
    obtain ⟨fuel, hf⟩ := h0
    rcases open_ints Try.underlying22 Try.underlying5 (by kernel_rfl) hf with ⟨hcs, _⟩ | ⟨x, l, c, zs, hcs, _, hl, hm, hz, _, hcell, hwz⟩
    · simp [Value.cells] at hcs
      obtain ⟨rfl, rfl, rfl⟩ := hcs
      exact ⟨[], .inl ⟨rfl, rfl, rfl, rfl⟩⟩
    · simp [Value.cells] at hcs
      obtain ⟨rfl, rfl, rfl⟩ := hcs
      exact ⟨zs, .inr ⟨_, rfl, hl, hm, by simpa using hz, hcell, hwz⟩⟩
  clear hA0 hval0
  refine (walk a0 len0 cap0 z0 W w0).mono fun e W' ⟨he, bel⟩ => ?_
  subst he
  exact ⟨_, rfl, _, _, _, [], _, [], hW', trodAll_mk1 (shut_bool Try.underlying4 _), (trodAll_cons_mk (Below.trod laidOut (by kernel_rfl) (of_decide_eq_true (by kernel_rfl)) k0 bel lt0) trodAll_mk0), rfl, bel.frame _, fun h => by cases h⟩

theorem over : Rows.fnAllowedRow.holds Try.pinned (OpenSpec.ofChange Rows.fnAllowedSpec) :=
  OpenClaim.holds_of_wide 3 Try.f3 rfl rfl rfl rfl rfl rfl rfl ⟨rfl, rfl, rfl, rfl, rfl⟩ rfl rfl rfl rfl rfl (by kernel_rfl) Try.func3 (by kernel_rfl)
    (of_decide_eq_true (by kernel_rfl)) (by unfold Func.isWrapper; first | (rw [if_pos (by decide +kernel)]; kernel_rfl) | (rw [if_neg (by decide +kernel)]; exact ⟨rfl, rfl⟩))
    (fun os started H enc _ => lifted os started H enc)

theorem proved : Rows.FnAllowedSaid := over
end Go.Proofs.Ytfhionlabjnngaa.fnAllowed
namespace Go.Proofs.Ytfhionlabjnngaa
theorem fnAllowed_holds : Rows.FnAllowedSaid := fnAllowed.proved
end Go.Proofs.Ytfhionlabjnngaa
