/- The last byte of a command, and its fields told apart, by the program: lastByte, readFields. -/
import Derived.Test.YtcphnnibhlmajaaCmB
import Derived.Test.YtcphnnibhlmajaaScoped
namespace Go.Proofs.Ytcphnnibhlmajaa
open Go.ChangeShapes Go.WideShapes Go.ChangeAt Go.RowKit

set_option maxRecDepth 20000 in
set_option maxHeartbeats 1000000 in
theorem ilast_any (l : Bs) (w : World) (hl : l.length ≤ 1048576) :
    Calls Try.prog 25 #[S l] w fun e w' => e = .returned (.int .u8 (sumI l)) ∧ w' = w := by
  have hsz : (⟨l.toArray⟩ : ByteArray).size = l.length := rfl
  unfold S
  go_enter Try.func25, Try.ntmps25
  go_wp2
  go_loop [3, 7] (fun h i => ∃ j : Nat, j ≤ l.length ∧ i = .int .i64 j ∧ ∃ x : Int, h = .int .u8 x ∧ 0 ≤ x ∧ x < 256 ∧ Hid (x = sumN l j % 256)) (fun _ i => l.length - (intOf i).toNat)
  case atStart => exact ⟨0, Nat.zero_le _, rfl, 0, rfl, by omega, by omega, by simp [Hid, sumN]⟩
  case round =>
    obtain ⟨j, hj, rfl, x, rfl, hx0, hx1, HX⟩ := hrel
    by_cases hlt : (j : Int) < (l.length : Int)
    · go_wp2
      go_round
      case rel =>
        have h1 : j < l.length := by omega
        have h2 : byteI (l.getD j 0) = byteI l[j] := by simp [h1]
        have h3 := sumN_step l j h1
        rw [h2] at h3
        have h4 : ((⟨l.toArray⟩ : ByteArray)[j]'(by omega)).toNat = l[j].toNat := rfl
        refine ⟨j + 1, by omega, by go_num, _, rfl, by omega, by omega, ?_⟩
        rw [Hid, h3, HX.out, h4]
        unfold byteI
        omega
      case measure => simp [intOf]; omega
    · have HE : Hid (sumI l = 255 - x) := by
        have e : j = l.length := by omega
        have h := HX.out
        rw [e] at h
        unfold sumN at h
        rw [List.take_length] at h
        rw [Hid, sumI, h]
      go_wp2
      go_ret
      rw [HE.out]
      exact ⟨rfl, rfl⟩

theorem w8 (x : UInt8) : wrap64 (byteI x) = byteI x := by have := byteI_bd x; exact wrap_small this.1 (by omega)
theorem w16 (x y : UInt8) : wrap64 (wrap64 (byteI x * 256) + byteI y) = byteI x * 256 + byteI y := by
  have := byteI_bd x
  have := byteI_bd y
  rw [wrap_small (x := byteI x * 256) (by omega) (by omega), wrap_small (by omega) (by omega)]
theorem cm_wraps (a b c d e f g i : UInt8) : (⟨wrap64 (wrap64 (byteI a)), wrap64 (wrap64 (byteI b)), wrap64 (wrap64 (wrap64 (wrap64 (byteI c)) * 256) + wrap64 (byteI d)), wrap64 (wrap64 (wrap64 (wrap64 (byteI e)) * 256) + wrap64 (byteI f)), wrap64 (wrap64 (byteI g))⟩ : Cm) = cmOf [a, b, c, d, e, f, g, i] := by
  simp only [w8, w16]
  rfl
theorem two_cmW (w : World) (c d : Cm) : CmB ((w.alloc (.cells (cmA c) 25)).alloc (.cells (cmA d) 25)) w.heap.size 25 c ∧ Below w.heap.size w ((w.alloc (.cells (cmA c) 25)).alloc (.cells (cmA d) 25)) :=
  ⟨(CmB.new w _ c).alloc _, ((Below.refl _ _).alloc (Nat.le_refl _) _).alloc (by simp) _⟩

set_option maxRecDepth 20000 in
set_option maxHeartbeats 4000000 in
theorem ireadF_any (l : Bs) (w : World) (hl : l.length = 8) :
    Calls Try.prog 30 #[S l] w fun e w' => e = .returned (CV (cmOf l)) ∧ Below w.heap.size w w' := by
  obtain ⟨a, b, c, d, e, f, g, i, rfl⟩ := eight_of hl
  have ha := byteI_bd a
  have hb := byteI_bd b
  have hc := byteI_bd c
  have hd := byteI_bd d
  have he := byteI_bd e
  have hf := byteI_bd f
  have hg := byteI_bd g
  unfold S
  go_enter Try.func30, Try.ntmps30
  go_wp2
  refine wp_scoped 11 ?_
  go_wp2
  go_step3
  go_wp2
  go_step3
  refine scoped_jump 10 1 _ rfl ?_
  go_wp2
  go_step3
  refine scoped_jump 9 0 _ rfl ?_
  go_wp2
  go_step3
  refine scoped_jump 8 2 _ rfl ?_
  go_wp2
  go_step3
  refine scoped_jump 7 0 _ rfl ?_
  go_wp2
  go_step3
  refine scoped_jump 6 0 _ rfl ?_
  go_wp2
  go_step3
  refine scoped_jump 5 3 _ rfl ?_
  go_wp2
  go_step3
  refine scoped_jump 4 0 _ rfl ?_
  go_wp2
  go_step3
  refine scoped_jump 3 0 _ rfl ?_
  go_wp2
  go_step3
  refine scoped_jump 2 4 _ rfl ?_
  go_wp2
  go_step3
  refine scoped_jump 1 0 _ rfl ?_
  go_wp2
  go_step3
  refine scoped_jump 0 5 _ rfl ?_
  go_wp2
  refine scoped_ret ?_
  have h := two_cmW w ⟨wrap64 (wrap64 (byteI a)), wrap64 (wrap64 (byteI b)), wrap64 (wrap64 (wrap64 (wrap64 (byteI c)) * 256) + wrap64 (byteI d)), wrap64 (wrap64 (wrap64 (wrap64 (byteI e)) * 256) + wrap64 (byteI f)), wrap64 (wrap64 (byteI g))⟩ ⟨wrap64 (wrap64 (byteI a)), wrap64 (wrap64 (byteI b)), wrap64 (wrap64 (wrap64 (wrap64 (byteI c)) * 256) + wrap64 (byteI d)), wrap64 (wrap64 (wrap64 (wrap64 (byteI e)) * 256) + wrap64 (byteI f)), wrap64 (wrap64 (byteI g))⟩
  refine bodyPost_ret (results_C rfl _ _ w.heap.size _ rfl h.1) rfl ?_
  exact ⟨congrArg (fun c => Ending.returned (CV c)) (cm_wraps a b c d e f g i), h.2⟩
end Go.Proofs.Ytcphnnibhlmajaa
