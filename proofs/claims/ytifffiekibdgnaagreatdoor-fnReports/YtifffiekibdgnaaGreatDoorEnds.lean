/- How the laws write a number: digits. -/
import Derived.Test.YtifffiekibdgnaaGreatDoorTextses
import Derived.Test.YtifffiekibdgnaaGreatDoorMem
import Derived.Deep.QuietTactic
import Derived.Test.YtifffiekibdgnaaGreatDoorTold
import Derived.Test.YtifffiekibdgnaaGreatDoorSTolds
namespace Go.Proofs.YtifffiekibdgnaaGreatDoor
open Go.ChangeShapes Go.WideShapes Go.ChangeAt Go.RowKit

set_option maxRecDepth 20000 in
set_option maxHeartbeats 1000000 in
theorem ldigits_any (n : Int) (w : World) (h0 : 0 ≤ n) (h1 : n ≤ 9223372036854775807) :
    Calls Tryz.prog 17 #[.int .i64 n] w fun e w' => e = .returned (S (decI n)) ∧ Below w.heap.size w w' := by
  unfold S
  go_enter Tryz.func17, Tryz.ntmps17
  go_wp2
  go_loopw [0, 3] (fun m s wr => ∃ (k : Int) (l : Bs), m = .int .i64 k ∧ s = .string ⟨l.toArray⟩ ∧ 0 ≤ k ∧ k ≤ 9223372036854775807 ∧ Hid (IntInv n k l ∧ Below w.heap.size w wr)) (fun m s _ => 2 * (intOf m).natAbs + (match s with | .string b => if b.size = 0 then 1 else 0 | _ => 0))
  case atStart => exact ⟨n, [], rfl, rfl, h0, h1, .inl ⟨rfl, rfl⟩, Below.refl _ _⟩
  case round =>
    obtain ⟨k, l, rfl, rfl, hk0, hk1, HI⟩ := hrel
    have hl20 := HI.out.1.len (by omega) h1
    have hsz : (⟨l.toArray⟩ : ByteArray).size = l.length := rfl
    by_cases hend : l ≠ [] ∧ k = 0
    · obtain ⟨hl, rfl⟩ := hend
      have HE : Hid (l = dec n.natAbs) := HI.out.1.done hl
      have hie : l.isEmpty = false := by simpa using hl
      clear hl
      go_wp2
      go_ret
      refine ⟨congrArg (fun x => Ending.returned (Value.string ⟨List.toArray x⟩)) ?_, HI.out.2⟩
      rw [decI, if_neg (by omega), ← HE.out]
    · have hg : l = [] ∨ k ≠ 0 := by
        by_cases h : l = []
        · exact .inl h
        · exact .inr (fun e => hend ⟨h, e⟩)
      clear hend
      obtain ⟨d, hd⟩ : ∃ d : Nat, d = k.natAbs % 10 := ⟨_, rfl⟩
      obtain ⟨q, hq⟩ : ∃ q : Nat, q = k.natAbs / 10 := ⟨_, rfl⟩
      have hd9 : (d : Int) ≤ 9 := by omega
      have hq9 : (q : Int) ≤ 922337203685477580 := by omega
      have hconv := conv1 wr d (by omega)
      have HM : Hid ((q : Int) < k.natAbs ∨ (q : Int) = k.natAbs ∧ l = []) := by
        rcases hg with h | h
        · by_cases h0 : k = 0
          · exact .inr ⟨by subst h0; simp at hq; omega, h⟩
          · exact .inl (by omega)
        · exact .inl (by omega)
      have HS : Hid (∀ k' : Int, k'.natAbs = q → IntInv n k' (digit d :: l)) := fun k' e => HI.out.1.step hg hd (by rw [e, hq])
      have HB : Hid (Below w.heap.size w (wr.alloc (.cells #[.int .u8 (48 + (d : Int))] 5))) := HI.out.2.alloc HI.out.2.size _
      have hgo : l.isEmpty = true ∨ (l.isEmpty = false ∧ 0 < k) := by
        by_cases h : l = []
        · exact .inl (by simp [h])
        · refine .inr ⟨by simpa using h, ?_⟩
          rcases hg with h' | h'
          · exact absurd h' h
          · omega
      have key : ∃ (k : Int) (l_1 : Bs), Value.int .i64 (q : Int) = Value.int .i64 k ∧ Value.string (({ data := #[digit d] } : ByteArray) ++ { data := l.toArray }) = .string ⟨l_1.toArray⟩ ∧ 0 ≤ k ∧ k ≤ 9223372036854775807 ∧ Hid (IntInv n k l_1 ∧ Below w.heap.size w (wr.alloc (.cells #[.int .u8 (48 + (d : Int))] 5))) :=
        ⟨(q : Int), digit d :: l, rfl, by rw [ByteArray.mk_append_mk' [digit d] l]; rfl, by omega, by omega, HS.out (q : Int) (by omega), HB.out⟩
      obtain ⟨hmod, hdiv⟩ : k.tmod 10 = (d : Int) ∧ k.tdiv 10 = (q : Int) := by rw [hd, hq]; exact parts_pos k hk0
      clear hd hq hg
      rcases hgo with hie | ⟨hie, hkn⟩
      all_goals
        go_wp2
        go_roundw
        case rel => exact key
        case measure => exact int_meas k _ q _ l (by omega) HM.out
end Go.Proofs.YtifffiekibdgnaaGreatDoor
/- A region that draws its order, whose operations only read and whose callees read and may make memory of their own: walked once, in a class of worlds. -/
namespace Go.Proofs.YtifffiekibdgnaaGreatDoor
open Go.ChangeShapes Go.WideShapes Go.ChangeAt Go.RowKit

/- A world of the class p. -/
structure Kin (p : World → Prop) where
  x : World
  h : p x
theorem wp_region_kin (p : World → Prop) {id : Nat} {Q : Exit → Act → World → Prop} {a : Act} {w : World} {l : List Oper} (hm : Tryz.prog.follows .mixedOrders = true) (hB : Region.lexB .any l.toArray = true) (h0 : p w.drew)
    (h : wpQuiet Tryz.prog l.toArray (fun w' => ∃ q : Kin p, w' = q.x) (fun a' => ∀ w', (∃ q : Kin p, w' = q.x) → Q .normal a' w') l a) : (Code.region id l.toArray true).wp Tryz.prog Q a w :=
  wp_region_quiet (C := fun w' => ∃ q : Kin p, w' = q.x) hm hB ⟨⟨w.drew, h0⟩, rfl⟩ (by simpa using h)
/- A callee's contract, met in a world of the class. -/
theorem Kin.call {p : World → Prop} {q : Kin p} {fn : FuncId} {args : Array Value} {v : Value}
    (h : Calls Tryz.prog fn args q.x fun e w' => e = .returned v ∧ Below q.x.heap.size q.x w') (hb : ∀ x w', p x → Below x.heap.size x w' → p w') : Calls Tryz.prog fn args q.x fun e w'' => e = .returned v ∧ ∃ q : Kin p, w'' = q.x :=
  h.mono fun _ w' ⟨he, b⟩ => ⟨he, ⟨w', hb _ _ q.h b⟩, rfl⟩
theorem Kin.same {p : World → Prop} {q : Kin p} {fn : FuncId} {args : Array Value} {v : Value}
    (h : Calls Tryz.prog fn args q.x fun e w' => e = .returned v ∧ w' = q.x) : Calls Tryz.prog fn args q.x fun e w'' => e = .returned v ∧ ∃ q : Kin p, w'' = q.x :=
  h.mono fun _ _ ⟨he, b⟩ => ⟨he, q, b⟩
end Go.Proofs.YtifffiekibdgnaaGreatDoor
/- What is told of holdings, on: of one that is none, of one that is right; the keys one after the other. -/
namespace Go.Proofs.YtifffiekibdgnaaGreatDoor
open Go.RowKit

theorem none_told {h : Hd} (e : h.ok = false) : h.showT = [] ∧ h.keysT = [] ∧ h.holdT = [] := by
  simp [Hd.showT, Hd.keysT, Hd.holdT, e]
theorem decI_ne (x : Int) : decI x ≠ [] := by
  unfold decI
  split
  · simp
  · exact dec_ne_nil _
theorem intsB_ne {xs : List Int} (h : xs ≠ []) : intsB xs ≠ [] := by
  cases xs with
  | nil => exact absurd rfl h
  | cons x l =>
    cases l with
    | nil => exact decI_ne x
    | cons y l => rw [intsB]; simp
theorem some_told {h : Hd} (e : h.ok = true) : h.showT ≠ [] ∧ h.keysT = intsB h.keysN ∧ readH h.showT = some h := by
  have e1 : h.showT = intsB h.showN := by simp [Hd.showT, e]
  refine ⟨?_, by simp [Hd.keysT, e], ?_⟩
  · rw [e1]; exact intsB_ne (by simp [Hd.showN])
  · rw [e1]; exact readH_show e
theorem showT_read (t : Bs) : readY t = true → (readD t).showT = t := by
  intro h
  unfold readY at h
  unfold readD
  cases e : readH t with
  | none => rw [e] at h; cases h
  | some g =>
    obtain ⟨g1, g2⟩ := showH_read e
    simp only [Option.getD_some, Hd.showT, g1, if_true]
    exact g2
theorem told_skip {t x : Int} {l : List Int} (h : x = 0) : intsB (t :: (l ++ [x]).filter (fun k => decide (k ≠ 0))) = intsB (t :: l.filter (fun k => decide (k ≠ 0))) := by
  rw [List.filter_append]
  simp [h]
theorem told_add {t x : Int} {l : List Int} (h : x ≠ 0) : intsB (t :: (l ++ [x]).filter (fun k => decide (k ≠ 0))) = intsB (t :: l.filter (fun k => decide (k ≠ 0))) ++ [32] ++ decI x := by
  rw [List.filter_append]
  have : [x].filter (fun k => decide (k ≠ 0)) = [x] := by simp [h]
  rw [this, ← List.cons_append, intsB_snoc _ _ (by simp)]
  simp
theorem told_len {h : Hd} (e : h.ok = true) (j : Nat) : (intsB (h.tu :: (h.ks.take j).filter (fun k => decide (k ≠ 0)))).length ≤ 2000 := by
  have hl := keysN_len (Hd.ok_all e).1 j
  have hf := Hd.ok_fitsK e
  have := intsB_len (h.tu :: (h.ks.take j).filter (fun k => decide (k ≠ 0))) (by
    intro x hx
    refine hf x ?_
    unfold Hd.keysN
    rcases List.mem_cons.1 hx with rfl | hx
    · simp
    · refine List.mem_cons_of_mem _ ?_
      rw [List.mem_filter] at hx ⊢
      exact ⟨List.mem_of_mem_take hx.1, hx.2⟩)
  omega
end Go.Proofs.YtifffiekibdgnaaGreatDoor
