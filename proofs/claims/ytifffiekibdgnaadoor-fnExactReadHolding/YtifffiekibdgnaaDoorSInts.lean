/- What the model shows of a list of numbers: l1Ints. -/
import Derived.Test.YtifffiekibdgnaaDoorNums
import Derived.Test.YtifffiekibdgnaaDoorStB
namespace Go.Proofs.YtifffiekibdgnaaDoor
open Go.ChangeShapes Go.WideShapes Go.ChangeAt Go.RowKit

def Fits64 (xs : List Int) : Prop := ∀ x ∈ xs, -9223372036854775808 ≤ x ∧ x ≤ 9223372036854775807
set_option maxRecDepth 20000 in
set_option maxHeartbeats 1000000 in
theorem sintsR_any (v : Value) (xs : List Int) (w : World) (hl : xs.length ≤ 64) (hx : Fits64 xs) (hr : Reads w v xs) :
    Calls Tryd.prog 45 #[v] w fun e w' => e = .returned (S (intsB xs)) ∧ Below w.heap.size w w' := by
  obtain ⟨ao, cap, rfl⟩ := reads_form hr
  obtain ⟨-, la, ma, -⟩ := reads_cells hr
  have HX : Hid (Fits64 xs) := hx
  have HC : Hid (Reads w (.slice ao xs.length cap) xs) := hr
  obtain ⟨n, hn⟩ : ∃ n, n = xs.length := ⟨_, rfl⟩
  have HN : Hid (n = xs.length) := hn
  rw [← hn] at HC hl la ⊢
  unfold maxLen at ma
  clear hx hr hn
  unfold S
  go_enter Tryd.func45, Tryd.ntmps45
  go_wp2
  go_loopw [3, 4] (fun s i wr => ∃ j : Nat, (j : Int) ≤ n ∧ i = .int .i64 j ∧ s = .string ⟨(fourB xs j).toArray⟩ ∧ Hid (Below w.heap.size w wr)) (fun _ i _ => n - (intOf i).toNat)
  case atStart => exact ⟨0, by omega, rfl, rfl, Below.refl _ _⟩
  case round =>
    obtain ⟨j, hj, rfl, rfl, HB⟩ := hrel
    by_cases hlt : (j : Int) < (n : Int)
    · have hj4 : j < xs.length := by have := HN.out; omega
      have hmem : xs.getD j 0 ∈ xs := by simp [hj4]
      have hb := HX.out _ hmem
      obtain ⟨-, -, -, hcell'⟩ := reads_cells (HC.out.below HB.out (Nat.le_refl _))
      obtain ⟨b, off, rfl, hcell⟩ := hcell' j (by omega)
      have c1 := fun wx => sint_any (xs.getD j 0) wx hb.1 hb.2
      have hdl := decI_len _ hb.1 hb.2
      have HS : Hid (fourB xs (j + 1) = _) := fourB_step xs j hj4
      have hfl : (fourB xs j).length ≤ 1408 := by
        unfold fourB
        split
        · simp
        · have := intsB_len (xs.take j) (fun x hx => HX.out x (List.mem_of_mem_take hx))
          simp at this
          omega
      obtain ⟨x, hxe⟩ : ∃ x, x = xs.getD j 0 := ⟨_, rfl⟩
      rw [← hxe] at hcell hdl HS
      simp only [← hxe] at c1
      obtain ⟨d, hde⟩ : ∃ d, d = decI x := ⟨_, rfl⟩
      rw [← hde] at hdl HS
      simp only [← hde] at c1
      obtain ⟨f, hfe⟩ : ∃ f, f = fourB xs j := ⟨_, rfl⟩
      have HF0 : Hid (j = 0 → f = []) := fun h => by rw [hfe, h]; rfl
      rw [← hfe] at hfl HS ⊢
      unfold S at c1
      have hsz : (⟨f.toArray⟩ : ByteArray).size = f.length := rfl
      have hdz : (⟨d.toArray⟩ : ByteArray).size = d.length := rfl
      clear hxe hde hfe hmem hb hcell' hj4
      by_cases h0 : 0 < (j : Int)
      · have HE : Hid (fourB xs (j + 1) = f ++ [32] ++ d) := by rw [Hid, HS.out, if_neg (by omega)]
        have ha := app' f [32]
        have ha2 := app' (f ++ [32]) d
        have hz2 : (⟨(f ++ [32]).toArray⟩ : ByteArray).size = f.length + 1 := by rw [bsize']; simp
        clear HS
        go_wp2_with fail
        refine (c1 _).mono ?_
        rintro e w1 ⟨rfl, b1⟩
        replace HB : Hid (Below w.heap.size w w1) := HB.out.trans (b1.mono HB.out.size)
        clear b1 c1
        go_wp2
        go_roundw
        case rel => exact ⟨j + 1, by omega, by go_num, by simp [HE.out], HB⟩
        case measure => simp [intOf]; omega
      · obtain rfl : j = 0 := by omega
        have HE : Hid (fourB xs (0 + 1) = f ++ d) := by rw [Hid, HS.out, if_pos rfl, HF0.out rfl]
        have ha := app' f d
        rw [Nat.add_zero] at hcell
        clear HS
        go_wp2_with fail
        refine (c1 _).mono ?_
        rintro e w1 ⟨rfl, b1⟩
        replace HB : Hid (Below w.heap.size w w1) := HB.out.trans (b1.mono HB.out.size)
        clear b1 c1
        go_wp2
        go_roundw
        case rel => exact ⟨0 + 1, by omega, by go_num, by simp [HE.out], HB⟩
        case measure => simp [intOf]; omega
    · have HE : Hid (fourB xs j = intsB xs) := by
        have : j = xs.length := by have := HN.out; omega
        subst this
        unfold Hid fourB
        split
        · rename_i e
          rw [List.eq_nil_of_length_eq_zero e]; rfl
        · rw [List.take_length]
      rw [HE.out]
      go_wp2
      go_ret
      exact ⟨rfl, HB.out⟩
end Go.Proofs.YtifffiekibdgnaaDoor
