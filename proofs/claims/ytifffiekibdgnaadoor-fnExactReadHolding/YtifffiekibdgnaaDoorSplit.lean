/- Texts are split: what l1Split of the model answers. -/
import Derived.Test.YtifffiekibdgnaaDoorSMark
namespace Go.Proofs.YtifffiekibdgnaaDoor
open Go.ChangeShapes Go.WideShapes Go.ChangeAt Go.RowKit

def ahead (a : Bs) : List Bs → List Bs
  | [] => [a]
  | p :: ps => (a ++ p) :: ps
def splitB (c : UInt8) : Bs → List Bs
  | [] => [[]]
  | b :: t => if b = c then [] :: splitB c t else ahead [b] (splitB c t)
theorem ahead_ahead (a b : Bs) (l : List Bs) (h : l ≠ []) : ahead a (ahead b l) = ahead (a ++ b) l := by
  cases l with
  | nil => exact absurd rfl h
  | cons p ps => simp [ahead]
theorem ahead_nil (l : List Bs) (h : l ≠ []) : ahead [] l = l := by
  cases l with
  | nil => exact absurd rfl h
  | cons p ps => rfl
theorem ahead_ne (a : Bs) (l : List Bs) : ahead a l ≠ [] := by cases l <;> simp [ahead]
theorem splitB_ne (c : UInt8) (l : Bs) : splitB c l ≠ [] := by
  cases l with
  | nil => simp [splitB]
  | cons b t => rw [splitB]; split; simp; exact ahead_ne _ _

def cutB (l : Bs) (a b : Nat) : Bs := (l.take b).drop a
theorem cutB_len (l : Bs) (a b : Nat) (h : b ≤ l.length) : (cutB l a b).length = b - a := by simp [cutB]; omega
theorem cutB_snoc (l : Bs) (a b : Nat) (h : a ≤ b) (hb : b < l.length) : cutB l a (b + 1) = cutB l a b ++ [l[b]] := by
  unfold cutB
  rw [take_snocB l b hb, List.drop_append_of_le_length (by simp; omega)]
theorem cutB_self (l : Bs) (a : Nat) : cutB l a a = [] := by
  unfold cutB
  rw [List.drop_eq_nil_of_le (by simp; omega)]
theorem extract_cut (l : Bs) (a b : Nat) : (⟨l.toArray⟩ : ByteArray).extract a b = ⟨(cutB l a b).toArray⟩ := by
  apply ByteArray.ext
  rw [ByteArray.data_extract]
  simp [cutB, List.extract_toArray, List.drop_take]

def SplitInv (c : UInt8) (l : Bs) (out : List Bs) (a i : Nat) : Prop := a ≤ i ∧ splitB c l = out ++ ahead (cutB l a i) (splitB c (l.drop i))
theorem SplitInv.start (c : UInt8) (l : Bs) : SplitInv c l [] 0 0 := ⟨Nat.le_refl _, by rw [cutB_self, List.drop_zero, ahead_nil _ (splitB_ne _ _)]; rfl⟩
theorem SplitInv.hit {c : UInt8} {l : Bs} {out : List Bs} {a i : Nat} (h : SplitInv c l out a i) (hi : i < l.length) (hc : l[i] = c) : SplitInv c l (out ++ [cutB l a i]) (i + 1) (i + 1) := by
  refine ⟨Nat.le_refl _, ?_⟩
  rw [h.2, List.drop_eq_getElem_cons hi, splitB, if_pos hc, cutB_self, ahead_nil _ (splitB_ne _ _)]
  simp [ahead]
theorem SplitInv.miss {c : UInt8} {l : Bs} {out : List Bs} {a i : Nat} (h : SplitInv c l out a i) (hi : i < l.length) (hc : l[i] ≠ c) : SplitInv c l out a (i + 1) := by
  refine ⟨by have := h.1; omega, ?_⟩
  rw [h.2, List.drop_eq_getElem_cons hi, splitB, if_neg hc, ahead_ahead _ _ _ (splitB_ne _ _), cutB_snoc l a i h.1 hi]
theorem SplitInv.done {c : UInt8} {l : Bs} {out : List Bs} {a : Nat} (h : SplitInv c l out a l.length) : splitB c l = out ++ [cutB l a l.length] := by
  rw [h.2]
  simp [splitB, ahead]

theorem Tryd.infoS : (Tryd.prog.info? 9).map (fun i => (i.zero, i.size, i.bytes)) = some (some (.string ⟨#[]⟩), 1, 16) := by kernel_rfl
theorem litS1 (w : World) (x : Bs) : ∀ j u, ([S x])[j]? = some u → (w.alloc (.cells #[S x] 9)).cell? ((⟨w.heap.size, 0, none⟩ : Addr).add j) = some u := by
  intro j u hj
  match j, hj with
  | 0, hj => simp at hj; subst hj; simp [Addr.add]
theorem mapS_one (xs : List Bs) (a : Bs) : xs.map S ++ [S a] = (xs ++ [a]).map S := by simp
theorem appendS {w wr w' : World} {o v' : Value} {out : List Bs} {x : Bs} {ob : Obj} (hO : OwnS wr w.heap.size o out) (hB : Below w.heap.size w wr)
    (hown : w'.ownsRow w.heap.size 9 1 v' (out.length + 1) (out.map S ++ [S x])) (hg : (wr.alloc ob).grownBy w' o.ownBlock) : OwnS w' w.heap.size v' (out ++ [x]) ∧ Below w.heap.size w w' := by
  refine ⟨?_, (hB.alloc hB.size ob).grown hg (by simp; have := hB.size; omega) (fun k e => (hO.lt k e).1)⟩
  unfold OwnS
  rw [← mapS_one]
  simpa using hown

set_option maxRecDepth 20000 in
set_option maxHeartbeats 1000000 in
theorem ssplit_any (l : Bs) (c : UInt8) (w : World) (hl : l.length ≤ 1048576) :
    Calls Tryd.prog 31 #[S l, .int .u8 (byteI c)] w fun e w' => ∃ u, e = .returned u ∧ OwnS w' w.heap.size u (splitB c l) ∧ Below w.heap.size w w' := by
  obtain ⟨i0, hi, hz0, hz1, hz2⟩ := info_parts Tryd.infoS
  unfold S
  go_enter Tryd.func31, Tryd.ntmps31
  go_wp2
  go_loopw [5, 6, 7] (fun o f i wr => ∃ (j a : Nat) (out : List Bs), i = .int .i64 j ∧ f = .int .i64 a ∧ (a : Int) ≤ j ∧ (j : Int) ≤ l.length + 1 ∧ out.length ≤ j ∧ Hid (OwnS wr w.heap.size o out ∧ Below w.heap.size w wr ∧ ((j ≤ l.length → SplitInv c l out a j) ∧ (j = l.length + 1 → out = splitB c l)))) (fun _ _ i _ => l.length + 1 - (intOf i).toNat)
  case atStart => exact ⟨0, 0, [], rfl, rfl, by omega, by omega, by simp, World.ownsRow_lit w #[] 0 (Nat.le_refl _) (Nat.zero_le _) rfl, (Below.refl _ _).alloc (Nat.le_refl _) _, fun _ => SplitInv.start c l, fun h => by omega⟩
  case round =>
    obtain ⟨j, a, out, rfl, rfl, haj, hj, hol, HR⟩ := hrel
    have hsz : (⟨l.toArray⟩ : ByteArray).size = l.length := rfl
    by_cases hend : (j : Int) ≤ (l.length : Int)
    · have hinv := HR.out.2.2.1 (by omega)
      have hown := HR.out.1
      have hbs := HR.out.2.1.size
      unfold OwnS at hown
      have hex := extract_cut l a j
      by_cases hl2 : (j : Int) = (l.length : Int)
      · obtain rfl : j = l.length := by omega
        have HI : Hid (splitB c l = out ++ [cutB l a l.length]) := hinv.done
        clear hinv hl2
        go_wp2_with (at_builtin; refine wpList_append_own _ rfl _ _ 48 rfl w.heap.size 9 i0 (.string ⟨#[]⟩) 1 16 Tryd.underlying48 hi hz0 hz1 hz2 rfl (by decide) _ _ _ rfl (hown.alloc _) _ 1 1 [S (cutB l a l.length)] rfl rfl (litS1 wr (cutB l a l.length)) (by simp [Value.oneCell', S]) (by unfold maxLen; omega) (by omega) (by simp; omega) ?_)
        intro v' w2 hown' hgrow _
        have HO : Hid (OwnS w2 w.heap.size v' (out ++ [cutB l a l.length]) ∧ Below w.heap.size w w2) := appendS HR.out.1 HR.out.2.1 hown' hgrow
        clear hown hown' hgrow HR
        go_wp2
        go_roundw
        case rel => exact ⟨l.length + 1, l.length + 1, out ++ [cutB l a l.length], by go_num, by go_num, by omega, by omega, by simp; omega, HO.out.1, HO.out.2, fun h => by omega, fun _ => HI.out.symm⟩
        case measure => simp [intOf]
      · have h1 : j < l.length := by omega
        have hjl : ((j : Int) == (l.length : Int)) = false := by simpa using hl2
        have ht := byteAt_is l j h1 c (byteI c) rfl
        by_cases hc : l[j] = c
        · rw [show decide (l[j] = c) = true by simp [hc]] at ht
          have HI : Hid (SplitInv c l (out ++ [cutB l a j]) (j + 1) (j + 1)) := hinv.hit h1 hc
          clear hinv hc
          go_wp2_with (at_builtin; refine wpList_append_own _ rfl _ _ 48 rfl w.heap.size 9 i0 (.string ⟨#[]⟩) 1 16 Tryd.underlying48 hi hz0 hz1 hz2 rfl (by decide) _ _ _ rfl (hown.alloc _) _ 1 1 [S (cutB l a j)] rfl rfl (litS1 wr (cutB l a j)) (by simp [Value.oneCell', S]) (by unfold maxLen; omega) (by omega) (by simp; omega) ?_)
          intro v' w2 hown' hgrow _
          have HO : Hid (OwnS w2 w.heap.size v' (out ++ [cutB l a j]) ∧ Below w.heap.size w w2) := appendS HR.out.1 HR.out.2.1 hown' hgrow
          clear hown hown' hgrow HR
          go_wp2
          go_roundw
          case rel => exact ⟨j + 1, j + 1, out ++ [cutB l a j], by go_num, by go_num, by omega, by omega, by simp; omega, HO.out.1, HO.out.2, fun _ => HI.out, fun h => by omega⟩
          case measure => simp [intOf]; omega
        · rw [show decide (l[j] = c) = false by simp [hc]] at ht
          have HI : Hid (SplitInv c l out a (j + 1)) := hinv.miss h1 hc
          clear hinv hc hown
          go_wp2
          go_roundw
          case rel => exact ⟨j + 1, a, out, by go_num, rfl, by omega, by omega, by omega, HR.out.1, HR.out.2.1, fun _ => HI.out, fun h => by omega⟩
          case measure => simp [intOf]; omega
    · go_wp2
      go_ret
      have e : j = l.length + 1 := by omega
      have h2 := HR.out.2.2.2 e
      rw [← h2]
      exact ⟨_, rfl, HR.out.1, HR.out.2.1⟩
end Go.Proofs.YtifffiekibdgnaaDoor
