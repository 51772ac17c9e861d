/- What strings.SplitN of Go's library answers, where the sign is one byte. -/
import Derived.Test.YtifffiekibdgnaaDoorDoor
import Derived.Test.YtifffiekibdgnaaDoorTextSta
namespace Go.Proofs.YtifffiekibdgnaaDoor
open Go.ChangeShapes Go.WideShapes Go.ChangeAt Go.RowKit

set_option maxRecDepth 20000 in
set_option maxHeartbeats 400000 in
theorem isidx_any (c : UInt8) (l : Bs) (w : World) :
    Calls Tryd.prog 67 #[S l, .string ⟨#[c]⟩] w fun e w' => e = .returned (.int .i64 (if posB c l = l.length then -1 else (posB c l : Int))) ∧ w' = w := by
  have c0 := Tryd.stringslite_Index_one ⟨l.toArray⟩ c w
  rw [show (⟨l.toArray⟩ : ByteArray).data.toList = l from rfl, index_pos] at c0
  obtain ⟨z, hz⟩ : ∃ z, z = (if posB c l = l.length then -1 else (posB c l : Int)) := ⟨_, rfl⟩
  rw [← hz] at c0 ⊢
  clear hz
  unfold S
  go_enter Tryd.func67, Tryd.ntmps67
  go_wp2_with fail
  refine c0.mono ?_
  rintro e w' ⟨rfl, hw⟩; subst w'
  clear c0
  go_wp2_with fail
  go_ret
  exact ⟨rfl, rfl⟩

theorem zerosS_eq (n : Nat) : (madeCells #[Value.string ⟨#[]⟩] n).toList = (List.replicate n ([] : Bs)).map S := by
  rw [toList_madeCells_one, List.map_replicate]; rfl

/- What stands in the list of n when i pieces are cut and s is still to be cut. -/
def CutInv (c : UInt8) (l : Bs) (k : Nat) (out : List Bs) (s : Bs) : Prop := out.length ≤ k ∧ splitN c k l = out ++ splitN c (k - out.length) s
theorem CutInv.start (c : UInt8) (l : Bs) (k : Nat) : CutInv c l k [] l := ⟨Nat.zero_le _, by simp⟩
theorem CutInv.next {c : UInt8} {l s : Bs} {k : Nat} {out : List Bs} (h : CutInv c l k out s) (hk : out.length < k) (hp : posB c s ≠ s.length) : CutInv c l k (out ++ [before c s]) (behind c s) := by
  refine ⟨by simp; omega, ?_⟩
  rw [h.2, show k - out.length = (k - (out ++ [before c s]).length) + 1 by simp; omega, splitN, posC_is, if_neg hp]
  simp [before, behind]
theorem CutInv.stop {c : UInt8} {l s : Bs} {k : Nat} {out : List Bs} (h : CutInv c l k out s) (hk : out.length = k ∨ posB c s = s.length) : splitN c k l = out ++ [s] := by
  rw [h.2]
  rcases hk with hk | hk
  · rw [hk, Nat.sub_self, splitN]
  · cases k - out.length with
    | zero => rw [splitN]
    | succ m => rw [splitN, posC_is, if_pos hk]
theorem setS_mid (out : List Bs) (m : Nat) (x : Bs) (h : 0 < m) : (out ++ List.replicate m []).set out.length x = (out ++ [x]) ++ List.replicate (m - 1) [] := by
  obtain ⟨k, rfl⟩ : ∃ k, m = k + 1 := ⟨m - 1, by omega⟩
  rw [List.set_append_right _ _ (by omega), Nat.sub_self, List.replicate_succ, List.set_cons_zero]
  simp
theorem below_setS {w wr : World} {g j : Nat} {x : Value} (h : Below w.heap.size w wr) (hg : w.heap.size ≤ g) : Below w.heap.size w (wr.setCell ⟨g, j, none⟩ x) := h.setCell (p := ⟨g, j, none⟩) hg x

theorem cut_reads {w : World} {base g n : Nat} {out : List Bs} {q : Bs} (h : OwnS w base (.slice (some ⟨g, 0, none⟩) n n) ((out ++ List.replicate (n - out.length) []).set out.length q)) (hn : out.length < n) : ReadsS w (.slice (some ⟨g, 0, none⟩) (out.length + 1) n) (out ++ [q]) := by
  rw [setS_mid out _ q (by omega)] at h
  have h2 := h.reads.take (out.length + 1) (by simp)
  rwa [List.take_append_of_le_length (by simp), List.take_of_length_le (by simp)] at h2

set_option maxRecDepth 20000 in
set_option maxHeartbeats 4000000 in
theorem igen_any (m : Nat) (m1 : 1 ≤ m) (m2 : m ≤ 100) (l : Bs) (w : World) (hl : l.length ≤ 1048576) :
    Calls Tryd.prog 52 #[S l, .string ⟨#[32]⟩, .int .i64 0, .int .i64 m] w fun e w' => ∃ v, e = .returned v ∧ ReadsS w' v (splitN 32 (min m (l.length + 1) - 1) l) ∧ Below w.heap.size w w' := by
  obtain ⟨i0, hi, hz0, hz1, hz2⟩ := info_parts Tryd.infoS
  obtain ⟨n, hn⟩ : ∃ n : Nat, n = min m (l.length + 1) := ⟨_, rfl⟩
  rw [← hn]
  have hn1 : 1 ≤ n := by omega
  have hn5 : n ≤ 100 := by omega
  have hm0 : ¬ (m : Int) = 0 := by omega
  have hm1 : ¬ (m : Int) < 0 := by omega
  have hmin : min (m : Int) ((l.length : Int) + 1) = n := by omega
  have hsz : (⟨l.toArray⟩ : ByteArray).size = l.length := rfl
  clear hn
  unfold S
  go_enter Tryd.func52, Tryd.ntmps52
  go_wp2_with (refine wpList_make_full _ rfl _ _ 48 rfl w.heap.size 9 i0 (.string ⟨#[]⟩) 1 Tryd.underlying48 hi hz0 hz1 _ _ _ _ n rfl rfl rfl rfl (by rw [hz2]; omega) (by unfold maxLen; omega) (Nat.le_refl _) ?_)
  intro w1 hown1 hgr1
  rw [zerosS_eq] at hown1
  have HO : Hid (OwnS w1 w.heap.size (.slice (some ⟨w.heap.size, 0, none⟩) n n) ([] ++ List.replicate n []) ∧ Below w.heap.size w w1) := by
    refine ⟨?_, (Below.refl _ _).grown hgr1 (Nat.le_refl _) (fun k e => by cases e)⟩
    unfold OwnS
    simpa using hown1
  clear hown1 hgr1
  go_wp2
  go_loopw [0, 10] (fun s i wr => ∃ (q : Bs) (out : List Bs), s = .string ⟨q.toArray⟩ ∧ i = .int .i64 out.length ∧ (out.length : Int) ≤ (n : Int) - 1 ∧ (q.length : Int) ≤ l.length ∧ Hid (OwnS wr w.heap.size (.slice (some ⟨w.heap.size, 0, none⟩) n n) (out ++ List.replicate (n - out.length) []) ∧ Below w.heap.size w wr ∧ CutInv 32 l (n - 1) out q)) (fun _ i _ => n - (intOf i).toNat)
  case atStart => exact ⟨l, [], rfl, rfl, by simp; omega, by omega, by simpa using HO.out.1, HO.out.2, CutInv.start _ _ _⟩
  case round =>
    obtain ⟨q, out, rfl, rfl, ho, hq, HR⟩ := hrel
    clear HO
    have hqz : (⟨q.toArray⟩ : ByteArray).size = q.length := rfl
    have hlen : (out ++ List.replicate (n - out.length) []).length = n := by simp; omega
    have HST : Hid (∀ x, _) := fun x => HR.out.1.put hlen.symm out.length (by omega) x
    have c1 := fun wx => isidx_any 32 q wx
    have hple := posB_le 32 q
    by_cases hlt : (out.length : Int) < (n : Int) - 1
    · by_cases hp : posB 32 q = q.length
      · have HF : Hid (splitN 32 (n - 1) l = out ++ [q]) := HR.out.2.2.stop (.inr hp)
        simp only [if_pos hp] at c1
        obtain ⟨hf, ⟨y, hc⟩, ho2⟩ := HST.out q
        unfold S at ho2 c1
        clear hp
        go_wp2_with fail
        refine (c1 _).mono ?_
        rintro e w' ⟨rfl, hw⟩; subst w'
        clear c1
        go_wp2
        go_ret
        rw [HF.out]
        exact ⟨_, rfl, cut_reads ho2 (by omega), below_setS HR.out.2.1 (Nat.le_refl _)⟩
      · simp only [if_neg hp] at c1
        have HN : Hid (CutInv 32 l (n - 1) (out ++ [before 32 q]) (behind 32 q)) := HR.out.2.2.next (by omega) hp
        have hex1 := extract_cut q 0 (posB 32 q)
        have hex2 := extract_cut q (posB 32 q + 1) q.length
        have e1 : cutB q 0 (posB 32 q) = before 32 q := by simp [cutB, before]
        have e2 : cutB q (posB 32 q + 1) q.length = behind 32 q := by simp [cutB, behind]
        rw [e1] at hex1
        rw [e2] at hex2
        have hbl := behind_len_le 32 q
        obtain ⟨p, hpp⟩ : ∃ p, p = posB 32 q := ⟨_, rfl⟩
        obtain ⟨x, hx⟩ : ∃ x, x = before 32 q := ⟨_, rfl⟩
        obtain ⟨y, hy⟩ : ∃ y, y = behind 32 q := ⟨_, rfl⟩
        rw [← hx] at hex1 HN
        rw [← hy] at hex2 HN hbl
        rw [← hpp] at hex1 hex2 hp hple
        simp only [← hpp] at c1
        obtain ⟨hf, ⟨y0, hc⟩, ho2⟩ := HST.out x
        have HO2 : Hid (OwnS (wr.setCell ⟨w.heap.size, out.length, none⟩ (S x)) w.heap.size (.slice (some ⟨w.heap.size, 0, none⟩) n n) ((out ++ [x]) ++ List.replicate (n - (out ++ [x]).length) [])) := by
          rw [setS_mid out _ x (by omega)] at ho2
          rw [List.length_append, List.length_cons, List.length_nil, show n - (out.length + (0 + 1)) = n - out.length - 1 by omega]
          exact ho2
        have HB2 : Hid (Below w.heap.size w (wr.setCell ⟨w.heap.size, out.length, none⟩ (S x))) := below_setS HR.out.2.1 (Nat.le_refl _)
        have hplt : (p : Int) + 1 ≤ (q.length : Int) := by omega
        unfold S at c1 HO2 HB2
        clear e1 e2 hpp hx hy ho2 HST
        go_wp2_with fail
        refine (c1 _).mono ?_
        rintro e w' ⟨rfl, hw⟩; subst w'
        clear c1
        go_wp2
        go_roundw
        case rel => exact ⟨y, out ++ [x], rfl, by simp, by simp; omega, by omega, HO2.out, HB2.out, HN.out⟩
        case measure => simp [intOf]; omega
    · have HF : Hid (splitN 32 (n - 1) l = out ++ [q]) := HR.out.2.2.stop (.inl (by omega))
      obtain ⟨hf, ⟨y, hc⟩, ho2⟩ := HST.out q
      clear c1
      unfold S at ho2
      go_wp2
      go_ret
      rw [HF.out]
      exact ⟨_, rfl, cut_reads ho2 (by omega), below_setS HR.out.2.1 (Nat.le_refl _)⟩

set_option maxRecDepth 20000 in
set_option maxHeartbeats 400000 in
theorem isplit_any (m : Nat) (m1 : 1 ≤ m) (m2 : m ≤ 100) (l : Bs) (w : World) (hl : l.length ≤ 1048576) :
    Calls Tryd.prog 34 #[S l, .string ⟨#[32]⟩, .int .i64 m] w fun e w' => ∃ v, e = .returned v ∧ ReadsS w' v (splitN 32 (min m (l.length + 1) - 1) l) ∧ Below w.heap.size w w' := by
  have c0 := igen_any m m1 m2 l w hl
  go_enter Tryd.func34, Tryd.ntmps34
  go_wp2_with fail
  refine c0.mono ?_
  rintro e w1 ⟨v, rfl, h1, h2⟩
  clear c0
  go_wp2_with fail
  go_ret
  exact ⟨v, rfl, h1, h2⟩
end Go.Proofs.YtifffiekibdgnaaDoor
