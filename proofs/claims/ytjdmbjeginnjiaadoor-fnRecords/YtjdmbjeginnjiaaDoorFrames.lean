/- Frames one behind the other: what Frames and Last of the model answer. -/
import Derived.Test.YtjdmbjeginnjiaaDoorFirst
namespace Go.Proofs.YtjdmbjeginnjiaaDoor
open Go.ChangeShapes Go.WideShapes Go.ChangeAt Go.RowKit

def framesN : Nat → Bs → List Bs × Nat
  | 0, _ => ([], 0)
  | k + 1, s => if (firstB s).2 = 0 then ([], 0) else ((firstB s).1 :: (framesN k (s.drop (firstB s).2)).1, (firstB s).2 + (framesN k (s.drop (firstB s).2)).2)
def framesB (s : Bs) : List Bs × Nat := framesN 2000 s
def FrInv (s : Bs) (out : List Bs) (a : Nat) : Prop := framesB s = (out ++ (framesN (2000 - out.length) (s.drop a)).1, a + (framesN (2000 - out.length) (s.drop a)).2)

theorem firstB_le (s : Bs) : (firstB s).2 ≤ s.length := by
  have h := lineN_le s
  unfold firstB
  dsimp only
  split
  · simp
  · rename_i hc
    split
    · split
      · simp; omega
      · simp
    · simp
theorem FrInv.start (s : Bs) : FrInv s [] 0 := by simp [FrInv, framesB]
theorem FrInv.next {s : Bs} {out : List Bs} {a : Nat} (h : FrInv s out a) (hl : out.length < 2000) (hn : (firstB (s.drop a)).2 ≠ 0) : FrInv s (out ++ [(firstB (s.drop a)).1]) (a + (firstB (s.drop a)).2) := by
  unfold FrInv at h ⊢
  rw [h]
  obtain ⟨k, hk⟩ : ∃ k, 2000 - out.length = k + 1 := ⟨2000 - out.length - 1, by omega⟩
  have hk2 : 2000 - (out ++ [(firstB (s.drop a)).1]).length = k := by simp; omega
  rw [hk, hk2, framesN, if_neg hn, List.drop_drop]
  simp [Nat.add_assoc]
theorem FrInv.stop {s : Bs} {out : List Bs} {a : Nat} (h : FrInv s out a) (hn : (firstB (s.drop a)).2 = 0 ∨ 2000 ≤ out.length) : framesB s = (out, a) := by
  rw [h]
  rcases hn with hn | hn
  · cases hk : 2000 - out.length with
    | zero => simp [framesN]
    | succ k => rw [framesN, if_pos hn]; simp
  · rw [show 2000 - out.length = 0 by omega]; simp [framesN]

set_option maxRecDepth 20000 in
set_option maxHeartbeats 2000000 in
theorem sframes_any (s : Bs) (w : World) (hl : s.length ≤ 1048576) :
    Calls Tryd.prog 23 #[S s] w fun e w' => ∃ u, e = .returned (.tuple #[u, .int .i64 (framesB s).2]) ∧ OwnS w' w.heap.size u (framesB s).1 ∧ Below w.heap.size w w' := by
  obtain ⟨i0, hi, hz0, hz1, hz2⟩ := info_parts Tryd.infoS
  have hsz : (⟨s.toArray⟩ : ByteArray).size = s.length := rfl
  unfold S
  go_enter Tryd.func23, Tryd.ntmps23
  go_wp2
  go_loopw [4, 5] (fun o u wr => ∃ (out : List Bs) (a : Nat) (ao : Option Addr) (cap : Nat), o = .slice ao out.length cap ∧ u = .int .i64 a ∧ (a : Int) ≤ s.length ∧ (out.length : Int) ≤ 2000 ∧ Hid (OwnS wr w.heap.size (.slice ao out.length cap) out ∧ Below w.heap.size w wr ∧ FrInv s out a)) (fun o _ _ => 2000 - (match o with | .slice _ n _ => n | _ => 0))
  case atStart => exact ⟨[], 0, _, _, rfl, rfl, by omega, by simp, World.ownsRow_lit w #[] 0 (Nat.le_refl _) (Nat.zero_le _) rfl, (Below.refl _ _).alloc (Nat.le_refl _) _, FrInv.start s⟩
  case round =>
    obtain ⟨out, a, ao, cap, rfl, rfl, ha, ho, HR⟩ := hrel
    by_cases hlt : (out.length : Int) < 2000
    · have hex := extract_cut s a s.length
      have e0 : cutB s a s.length = s.drop a := by simp [cutB]
      rw [e0] at hex
      have c1 := sfirst_any (s.drop a) wr (by simp; omega)
      have hfl := firstB_le (s.drop a)
      have hdl : (s.drop a).length = s.length - a := by simp
      obtain ⟨q, hq⟩ : ∃ q, q = s.drop a := ⟨_, rfl⟩
      rw [← hq] at hex c1 hfl hdl
      obtain ⟨t, ht⟩ : ∃ t, t = (firstB q).1 := ⟨_, rfl⟩
      obtain ⟨n, hn⟩ : ∃ n, n = (firstB q).2 := ⟨_, rfl⟩
      rw [← ht, ← hn] at c1
      rw [← hn] at hfl
      unfold S at c1
      have HN : Hid (n ≠ 0 → FrInv s (out ++ [t]) (a + n)) := fun h => by
        rw [ht, hn, hq]; exact HR.out.2.2.next (by omega) (by rw [← hq, ← hn]; exact h)
      have HZ : Hid (n = 0 → framesB s = (out, a)) := fun h => HR.out.2.2.stop (.inl (by rw [← hq, ← hn]; exact h))
      clear e0 hq ht hn
      go_wp2_with fail
      refine c1.mono ?_
      rintro e w1 ⟨rfl, b1⟩
      clear c1
      have HR1 : Hid (OwnS w1 w.heap.size (.slice ao out.length cap) out ∧ Below w.heap.size w w1) := ⟨HR.out.1.below b1, HR.out.2.1.trans (b1.mono HR.out.2.1.size)⟩
      clear b1 HR
      by_cases h0 : n = 0
      · subst h0
        have HF := HZ.out rfl
        go_wp2_with fail
        go_ret2
        rw [HF]
        exact ⟨_, rfl, HR1.out.1, HR1.out.2⟩
      · have h0' : ((n : Int) == 0) = false := by simpa using h0
        have hown := HR1.out.1
        have hbs := HR1.out.2.size
        unfold OwnS at hown
        go_wp2_with (at_builtin; refine wpList_append_own _ rfl _ _ 38 rfl w.heap.size 9 i0 (.string ⟨#[]⟩) 1 16 Tryd.underlying38 hi hz0 hz1 hz2 rfl (by decide) _ _ _ rfl (hown.alloc _) _ 1 1 [S t] rfl rfl (litS1 w1 t) (by simp [Value.oneCell', S]) (by unfold maxLen; omega) (by omega) (by simp; omega) ?_)
        intro v' w2 hown' hgrow _
        have HO : Hid (OwnS w2 w.heap.size v' (out ++ [t]) ∧ Below w.heap.size w w2) := appendS HR1.out.1 HR1.out.2 hown' hgrow
        clear hown hown' hgrow HR1
        obtain ⟨ao2, cap2, hev, -⟩ := HO.out.1.reads
        subst hev
        go_wp2
        go_roundw
        case rel => exact ⟨out ++ [t], a + n, ao2, cap2, rfl, by go_num, by omega, by simp; omega, HO.out.1, HO.out.2, HN.out h0⟩
        case measure => simp; omega
    · have HF : Hid (framesB s = (out, a)) := HR.out.2.2.stop (.inr (by omega))
      go_wp2
      go_ret2
      rw [HF.out]
      exact ⟨_, rfl, HR.out.1, HR.out.2.1⟩

theorem OwnS.lenle {w : World} {base : Nat} {v : Value} {xs : List Bs} (h : OwnS w base v xs) : xs.length ≤ 9223372036854775807 := by
  obtain ⟨_, cap, _, h1, ⟨h2, _⟩, _⟩ := h.reads
  unfold maxLen at h2
  omega

def lastB (s : Bs) : Bs := (framesB s).1.getLastD []
def hasB (s : Bs) : Bool := !(framesB s).1.isEmpty
end Go.Proofs.YtjdmbjeginnjiaaDoor
