/- What strings.SplitN of Go's library answers, where the sign is one byte. -/
import Derived.Test.YtlkkpolnllbljaaGreatDoorM18
import Derived.Test.YtlkkpolnllbljaaGreatDoorM9
import Derived.Test.YtlkkpolnllbljaaGreatDoorM7
import Derived.RangeFuncCalls
import Derived.Shelf.RegionOpen
namespace Go.Proofs.YtlkkpolnllbljaaGreatDoor
open Go.ChangeShapes Go.WideShapes Go.ChangeAt Go.RowKit

set_option maxRecDepth 20000 in
set_option maxHeartbeats 400000 in
theorem isidx_any (c : UInt8) (l : Bs) (w : World) :
    Calls Tryz.prog 249 #[S l, .string ⟨#[c]⟩] w fun e w' => e = .returned (.int .i64 (if posB c l = l.length then -1 else (posB c l : Int))) ∧ w' = w := by
  have c0 := Tryz.stringslite_Index_one ⟨l.toArray⟩ c w
  rw [show (⟨l.toArray⟩ : ByteArray).data.toList = l from rfl, index_pos] at c0
  obtain ⟨z, hz⟩ : ∃ z, z = (if posB c l = l.length then -1 else (posB c l : Int)) := ⟨_, rfl⟩
  rw [← hz] at c0 ⊢
  clear hz
  unfold S
  go_enter Tryz.func249, Tryz.ntmps249
  go_wp2_with fail
  refine c0.mono ?_
  rintro e w' ⟨rfl, hw⟩; subst w'
  clear c0
  go_wp2_with fail
  go_ret
  exact ⟨rfl, rfl⟩

theorem zerosS_eq (n : Nat) : (madeCells #[Value.string ⟨#[]⟩] n).toList = (List.replicate n ([] : Bs)).map S := by
  rw [toList_madeCells_one, List.map_replicate]; rfl

/- What stands in the list of n when i pieces are cut and s is still to be cut. -/
def CutInv (c : UInt8) (l : Bs) (k : Nat) (out : List Bs) (s : Bs) : Prop := out.length ≤ k ∧ splitN c k l = out ++ splitN c (k - out.length) s
theorem CutInv.start (c : UInt8) (l : Bs) (k : Nat) : CutInv c l k [] l := ⟨Nat.zero_le _, by simp⟩
theorem CutInv.next {c : UInt8} {l s : Bs} {k : Nat} {out : List Bs} (h : CutInv c l k out s) (hk : out.length < k) (hp : posB c s ≠ s.length) : CutInv c l k (out ++ [before c s]) (behind c s) := by
  refine ⟨by simp; omega, ?_⟩
  rw [h.2, show k - out.length = (k - (out ++ [before c s]).length) + 1 by simp; omega, splitN, posC_is, if_neg hp]
  simp [before, behind]
theorem CutInv.stop {c : UInt8} {l s : Bs} {k : Nat} {out : List Bs} (h : CutInv c l k out s) (hk : out.length = k ∨ posB c s = s.length) : splitN c k l = out ++ [s] := by
  rw [h.2]
  rcases hk with hk | hk
  · rw [hk, Nat.sub_self, splitN]
  · cases k - out.length with
    | zero => rw [splitN]
    | succ m => rw [splitN, posC_is, if_pos hk]
theorem setS_mid (out : List Bs) (m : Nat) (x : Bs) (h : 0 < m) : (out ++ List.replicate m []).set out.length x = (out ++ [x]) ++ List.replicate (m - 1) [] := by
  obtain ⟨k, rfl⟩ : ∃ k, m = k + 1 := ⟨m - 1, by omega⟩
  rw [List.set_append_right _ _ (by omega), Nat.sub_self, List.replicate_succ, List.set_cons_zero]
  simp
theorem below_setS {w wr : World} {g j : Nat} {x : Value} (h : Below w.heap.size w wr) (hg : w.heap.size ≤ g) : Below w.heap.size w (wr.setCell ⟨g, j, none⟩ x) := h.setCell (p := ⟨g, j, none⟩) hg x

theorem cut_reads {w : World} {base g n : Nat} {out : List Bs} {q : Bs} (h : OwnS w base (.slice (some ⟨g, 0, none⟩) n n) ((out ++ List.replicate (n - out.length) []).set out.length q)) (hn : out.length < n) : ReadsS w (.slice (some ⟨g, 0, none⟩) (out.length + 1) n) (out ++ [q]) := by
  rw [setS_mid out _ q (by omega)] at h
  have h2 := h.reads.take (out.length + 1) (by simp)
  rwa [List.take_append_of_le_length (by simp), List.take_of_length_le (by simp)] at h2

set_option maxRecDepth 20000 in
set_option maxHeartbeats 4000000 in
theorem igen_any (m : Nat) (m1 : 1 ≤ m) (m2 : m ≤ 100) (l : Bs) (w : World) (hl : l.length ≤ 1048576) :
    Calls Tryz.prog 226 #[S l, .string ⟨#[32]⟩, .int .i64 0, .int .i64 m] w fun e w' => ∃ v, e = .returned v ∧ ReadsS w' v (splitN 32 (min m (l.length + 1) - 1) l) ∧ Below w.heap.size w w' := by
  obtain ⟨i0, hi, hz0, hz1, hz2⟩ := info_parts Tryz.infoS
  obtain ⟨n, hn⟩ : ∃ n : Nat, n = min m (l.length + 1) := ⟨_, rfl⟩
  rw [← hn]
  have hn1 : 1 ≤ n := by omega
  have hn5 : n ≤ 100 := by omega
  have hm0 : ¬ (m : Int) = 0 := by omega
  have hm1 : ¬ (m : Int) < 0 := by omega
  have hmin : min (m : Int) ((l.length : Int) + 1) = n := by omega
  have hsz : (⟨l.toArray⟩ : ByteArray).size = l.length := rfl
  clear hn
  unfold S
  go_enter Tryz.func226, Tryz.ntmps226
  go_wp2_with (refine wpList_make_full _ rfl _ _ 110 rfl w.heap.size 9 i0 (.string ⟨#[]⟩) 1 Tryz.underlying110 hi hz0 hz1 _ _ _ _ n rfl rfl rfl rfl (by rw [hz2]; omega) (by unfold maxLen; omega) (Nat.le_refl _) ?_)
  intro w1 hown1 hgr1
  rw [zerosS_eq] at hown1
  have HO : Hid (OwnS w1 w.heap.size (.slice (some ⟨w.heap.size, 0, none⟩) n n) ([] ++ List.replicate n []) ∧ Below w.heap.size w w1) := by
    refine ⟨?_, (Below.refl _ _).grown hgr1 (Nat.le_refl _) (fun k e => by cases e)⟩
    unfold OwnS
    simpa using hown1
  clear hown1 hgr1
  go_wp2
  go_loopw [0, 10] (fun s i wr => ∃ (q : Bs) (out : List Bs), s = .string ⟨q.toArray⟩ ∧ i = .int .i64 out.length ∧ (out.length : Int) ≤ (n : Int) - 1 ∧ (q.length : Int) ≤ l.length ∧ Hid (OwnS wr w.heap.size (.slice (some ⟨w.heap.size, 0, none⟩) n n) (out ++ List.replicate (n - out.length) []) ∧ Below w.heap.size w wr ∧ CutInv 32 l (n - 1) out q)) (fun _ i _ => n - (intOf i).toNat)
  case atStart => exact ⟨l, [], rfl, rfl, by simp; omega, by omega, by simpa using HO.out.1, HO.out.2, CutInv.start _ _ _⟩
  case round =>
    obtain ⟨q, out, rfl, rfl, ho, hq, HR⟩ := hrel
    clear HO
    have hqz : (⟨q.toArray⟩ : ByteArray).size = q.length := rfl
    have hlen : (out ++ List.replicate (n - out.length) []).length = n := by simp; omega
    have HST : Hid (∀ x, _) := fun x => HR.out.1.put hlen.symm out.length (by omega) x
    have c1 := fun wx => isidx_any 32 q wx
    have hple := posB_le 32 q
    by_cases hlt : (out.length : Int) < (n : Int) - 1
    · by_cases hp : posB 32 q = q.length
      · have HF : Hid (splitN 32 (n - 1) l = out ++ [q]) := HR.out.2.2.stop (.inr hp)
        simp only [if_pos hp] at c1
        obtain ⟨hf, ⟨y, hc⟩, ho2⟩ := HST.out q
        unfold S at ho2 c1
        clear hp
        go_wp2_with fail
        refine (c1 _).mono ?_
        rintro e w' ⟨rfl, hw⟩; subst w'
        clear c1
        go_wp2
        go_ret
        rw [HF.out]
        exact ⟨_, rfl, cut_reads ho2 (by omega), below_setS HR.out.2.1 (Nat.le_refl _)⟩
      · simp only [if_neg hp] at c1
        have HN : Hid (CutInv 32 l (n - 1) (out ++ [before 32 q]) (behind 32 q)) := HR.out.2.2.next (by omega) hp
        have hex1 := extract_cut q 0 (posB 32 q)
        have hex2 := extract_cut q (posB 32 q + 1) q.length
        have e1 : cutB q 0 (posB 32 q) = before 32 q := by simp [cutB, before]
        have e2 : cutB q (posB 32 q + 1) q.length = behind 32 q := by simp [cutB, behind]
        rw [e1] at hex1
        rw [e2] at hex2
        have hbl := behind_len_le 32 q
        obtain ⟨p, hpp⟩ : ∃ p, p = posB 32 q := ⟨_, rfl⟩
        obtain ⟨x, hx⟩ : ∃ x, x = before 32 q := ⟨_, rfl⟩
        obtain ⟨y, hy⟩ : ∃ y, y = behind 32 q := ⟨_, rfl⟩
        rw [← hx] at hex1 HN
        rw [← hy] at hex2 HN hbl
        rw [← hpp] at hex1 hex2 hp hple
        simp only [← hpp] at c1
        obtain ⟨hf, ⟨y0, hc⟩, ho2⟩ := HST.out x
        have HO2 : Hid (OwnS (wr.setCell ⟨w.heap.size, out.length, none⟩ (S x)) w.heap.size (.slice (some ⟨w.heap.size, 0, none⟩) n n) ((out ++ [x]) ++ List.replicate (n - (out ++ [x]).length) [])) := by
          rw [setS_mid out _ x (by omega)] at ho2
          rw [List.length_append, List.length_cons, List.length_nil, show n - (out.length + (0 + 1)) = n - out.length - 1 by omega]
          exact ho2
        have HB2 : Hid (Below w.heap.size w (wr.setCell ⟨w.heap.size, out.length, none⟩ (S x))) := below_setS HR.out.2.1 (Nat.le_refl _)
        have hplt : (p : Int) + 1 ≤ (q.length : Int) := by omega
        unfold S at c1 HO2 HB2
        clear e1 e2 hpp hx hy ho2 HST
        go_wp2_with fail
        refine (c1 _).mono ?_
        rintro e w' ⟨rfl, hw⟩; subst w'
        clear c1
        go_wp2
        go_roundw
        case rel => exact ⟨y, out ++ [x], rfl, by simp, by simp; omega, by omega, HO2.out, HB2.out, HN.out⟩
        case measure => simp [intOf]; omega
    · have HF : Hid (splitN 32 (n - 1) l = out ++ [q]) := HR.out.2.2.stop (.inl (by omega))
      obtain ⟨hf, ⟨y, hc⟩, ho2⟩ := HST.out q
      clear c1
      unfold S at ho2
      go_wp2
      go_ret
      rw [HF.out]
      exact ⟨_, rfl, cut_reads ho2 (by omega), below_setS HR.out.2.1 (Nat.le_refl _)⟩

set_option maxRecDepth 20000 in
set_option maxHeartbeats 400000 in
theorem isplit_any (m : Nat) (m1 : 1 ≤ m) (m2 : m ≤ 100) (l : Bs) (w : World) (hl : l.length ≤ 1048576) :
    Calls Tryz.prog 188 #[S l, .string ⟨#[32]⟩, .int .i64 m] w fun e w' => ∃ v, e = .returned v ∧ ReadsS w' v (splitN 32 (min m (l.length + 1) - 1) l) ∧ Below w.heap.size w w' := by
  have c0 := igen_any m m1 m2 l w hl
  go_enter Tryz.func188, Tryz.ntmps188
  go_wp2_with fail
  refine c0.mono ?_
  rintro e w1 ⟨v, rfl, h1, h2⟩
  clear c0
  go_wp2_with fail
  go_ret
  exact ⟨v, rfl, h1, h2⟩
end Go.Proofs.YtlkkpolnllbljaaGreatDoor
/- What ReadRecord of the program answers. -/
namespace Go.Proofs.YtlkkpolnllbljaaGreatDoor
open Go.ChangeShapes Go.WideShapes Go.ChangeAt Go.RowKit

def wordsN (s : Bs) : List Bs := splitN 32 (min 5 ((behind 32 s).length + 1) - 1) (behind 32 s)
theorem head_before (s : Bs) : (splitB 32 s).head? = some (before 32 s) := by
  rw [splitB_first, posC_is]
  split
  · rename_i h
    rw [(behind_miss h).2.1]; rfl
  · rfl
theorem words_four {s : Bs} (h : (wordsN s).length = 4) : (splitB 32 s).tail = wordsN s := by
  rw [splitB_first, posC_is]
  split
  · rename_i hp
    exfalso
    unfold wordsN at h
    rw [(behind_miss hp).1] at h
    simp [splitN] at h
  · unfold wordsN at h ⊢
    rcases split_four (behind 32 s) with e | ⟨e1, _⟩
    · rw [e]; rfl
    · exact absurd h e1
theorem words_not {s : Bs} (h : (wordsN s).length ≠ 4) : readR s = none := by
  refine readR_len ?_
  rw [splitB_first, posC_is]
  split
  · simp
  · unfold wordsN at h
    rcases split_four (behind 32 s) with e | ⟨_, e2⟩
    · rw [e] at h
      simp only [List.length_cons]
      intro h2
      exact h (by unfold behind; omega)
    · simp only [List.length_cons]
      intro h2
      exact e2 (by unfold behind; omega)
theorem splitN_part (c : UInt8) (k : Nat) : ∀ s : Bs, ∀ p ∈ splitN c k s, p.length ≤ s.length := by
  induction k with
  | zero => intro s p hp; simp [splitN] at hp; rw [hp]; exact Nat.le_refl _
  | succ k ih =>
    intro s p hp
    rw [splitN] at hp
    split at hp
    · simp at hp; rw [hp]; exact Nat.le_refl _
    · rcases List.mem_cons.1 hp with rfl | hp
      · simp; omega
      · have := ih _ p hp; simp at this; omega

/- An array of four numbers in memory. -/
def row4 (f : Nat → Int) : Array Value := #[.int .i64 (f 0), .int .i64 (f 1), .int .i64 (f 2), .int .i64 (f 3)]
def Row4 (w : World) (g : Nat) (f : Nat → Int) : Prop := w.heap[g]? = some (.cells (row4 f) 168 (0, 0))
def upd4 (f : Nat → Int) (j : Nat) (x : Int) : Nat → Int := fun k => if k = j then x else f k
theorem fours {p : Nat → Prop} (h0 : p 0) (h1 : p 1) (h2 : p 2) (h3 : p 3) : ∀ j, j < 4 → p j
  | 0, _ => h0 | 1, _ => h1 | 2, _ => h2 | 3, _ => h3
  | _ + 4, h => by omega
theorem row4_at (f : Nat → Int) : ∀ j, j < 4 → (row4 f)[j]? = some (.int .i64 (f j)) := fours rfl rfl rfl rfl
theorem row4_set (f : Nat → Int) (x : Int) : ∀ j, j < 4 → (row4 f).setIfInBounds j (.int .i64 x) = row4 (upd4 f j x) := fours rfl rfl rfl rfl
theorem Row4.cell {w : World} {g : Nat} {f : Nat → Int} (h : Row4 w g f) (j : Nat) (hj : j < 4) : w.cell? ⟨g, j, none⟩ = some (.int .i64 (f j)) := by
  rw [cell_of_row w g j _ _ _ h, row4_at f j hj]
theorem Row4.frozen {w : World} {g : Nat} {f : Nat → Int} (h : Row4 w g f) (j : Nat) : w.frozen? ⟨g, j, none⟩ = false := frozen_of_row w g j _ _ h
theorem Row4.new (w : World) (f : Nat → Int) : Row4 (w.alloc (.cells (row4 f) 168)) w.heap.size f := heap_alloc_new w _
theorem Row4.setCell {w : World} {g : Nat} {f : Nat → Int} (h : Row4 w g f) (j : Nat) (hj : j < 4) (x : Int) : Row4 (w.setCell ⟨g, j, none⟩ (.int .i64 x)) g (upd4 f j x) := by
  have := heap_setCell_same w g j _ _ (.int .i64 x) h
  rw [row4_set f x j hj] at this
  exact this
def part4 (vs : List Bs) (j : Nat) : Nat → Int := fun k => if k < j then num (vs.getD k []) else 0
theorem part4_step (vs : List Bs) (j : Nat) : upd4 (part4 vs j) j (num (vs.getD j [])) = part4 vs (j + 1) := by
  funext k
  unfold upd4 part4
  by_cases e : k = j
  · subst e; simp
  · have : k < j + 1 ↔ k < j := by omega
    simp [e, this]

set_option maxRecDepth 20000 in
set_option maxHeartbeats 4000000 in
theorem ireadR_any (s : Bs) (w : World) (hl : s.length ≤ 1048576) :
    Calls Tryz.prog 150 #[S s] w fun e w' => e = .returned (.tuple #[RV (recO s), .bool (isR s)]) ∧ Below w.heap.size w w' := by
  have R0 := RecB.new w 38 Rc.zero
  have B0 : Below w.heap.size w (w.alloc (.cells (recA Rc.zero) 38)) := (Below.refl _ _).alloc (Nat.le_refl _) _
  have hbl := behind_len_le 32 s
  have c1 := fun wx => icut_any 32 s wx hl
  have c2 := fun wx => isplit_any 5 (by omega) (by omega) (behind 32 s) wx (by omega)
  have hvs : splitN 32 (min 5 ((behind 32 s).length + 1) - 1) (behind 32 s) = wordsN s := rfl
  simp only [hvs] at c2
  have HPT : Hid (∀ p ∈ wordsN s, p.length ≤ 1048576) := fun p hp => by have := splitN_part 32 _ (behind 32 s) p hp; omega
  have E1 : Hid ((wordsN s).length ≠ 4 → readR s = none) := words_not
  have E2 : Hid (before 32 s ≠ recW → readR s = none) := fun h => readR_word (by rw [head_before]; intro e; exact h (Option.some.inj e))
  have E3 : Hid ((wordsN s).length = 4 → ∀ j, j < 4 → okN ((wordsN s).getD j []) = false → readR s = none) := fun h j hj => by
    have := words_four h
    have h3 := readR_num (s := s) (j := j)
    rw [this] at h3
    exact h3 (by omega)
  have E4 : Hid ((wordsN s).length = 4 → (recOf (wordsN s)).ok = false → readR s = none) := fun h => by
    have := words_four h
    have h3 := readR_bad (s := s)
    rwa [this] at h3
  have E5 : Hid (before 32 s = recW → (wordsN s).length = 4 → (wordsN s).all okN = true → (recOf (wordsN s)).ok = true → readR s = some (recOf (wordsN s))) := fun h0 h => by
    have := words_four h
    have h3 := readR_good (s := s) (by rw [head_before, h0])
    rw [this] at h3
    exact h3 h
  clear hvs
  obtain ⟨vs, hv⟩ : ∃ vs, vs = wordsN s := ⟨_, rfl⟩
  obtain ⟨bf, hbf⟩ : ∃ bf, bf = before 32 s := ⟨_, rfl⟩
  obtain ⟨bh, hbh⟩ : ∃ bh, bh = behind 32 s := ⟨_, rfl⟩
  obtain ⟨hc, hhc⟩ : ∃ hc, hc = hasC 32 s := ⟨_, rfl⟩
  rw [← hv] at HPT E1 E3 E4 E5
  rw [← hbf] at E2 E5
  simp only [← hbf, ← hbh, ← hhc] at c1
  simp only [← hv, ← hbh] at c2
  clear hv hbf hbh hhc hbl hl
  unfold S at *
  go_enter Tryz.func150, Tryz.ntmps150
  go_wp2_with fail
  refine (c1 _).mono ?_
  rintro e w1 ⟨rfl, n1, hw1⟩
  have b1 : Below (w.alloc (.cells (recA Rc.zero) 38)).heap.size (w.alloc (.cells (recA Rc.zero) 38)) w1 := by rw [hw1]; exact below_drewN (Below.refl _ _) n1
  have R1 := R0.below b1
  have B1 := B0.trans (b1.mono B0.size)
  clear hw1 c1 b1 R0 B0
  go_wp2_with fail
  refine (c2 _).mono ?_
  rintro e wS ⟨v, rfl, o1, b2⟩
  have RS := R1.below b2
  have BS := B1.trans (b2.mono B1.size)
  have hsS : w.heap.size < wS.heap.size := RS.lt
  clear c2 b2 R1 B1
  obtain ⟨ao, cap, rfl, hcap, -, hcells⟩ := o1
  by_cases hw0 : bf = recW
  · subst hw0
    by_cases h4 : vs.length = 4
    · replace E3 := E3.out h4
      replace E4 := E4.out h4
      replace E5 := E5.out rfl h4
      have H3 : Hid (∀ j, j < 4 → okN (vs.getD j []) = false → readR s = none) := E3
      have H4 : Hid ((recOf vs).ok = false → readR s = none) := E4
      have H5 : Hid (vs.all okN = true → (recOf vs).ok = true → readR s = some (recOf vs)) := E5
      obtain ⟨vb, vo, rfl, hcell0⟩ : ∃ b off, ao = some ⟨b, off, none⟩ ∧ ∀ j, j < vs.length → wS.cell? ⟨b, off + j, none⟩ = some (S (vs.getD j [])) := by
        rcases hcells with e | ⟨b, off, e, h⟩
        · rw [e] at h4; simp at h4
        · exact ⟨b, off, e, h⟩
      have HC : Hid (∀ j, j < 4 → wS.cell? ⟨vb, vo + j, none⟩ = some (.string ⟨(vs.getD j []).toArray⟩)) := fun j hj => hcell0 j (by omega)
      have HV : Hid (vs.length = 4) := h4
      rw [h4] at hcap ⊢
      unfold recW
      clear E1 E2 E3 E4 E5 hcells hcell0 h4
      go_wp2
      go_loopw [33] (fun i wr => ∃ j : Nat, i = .int .i64 j ∧ (j : Int) ≤ 4 ∧ Hid (Row4 wr wS.heap.size (part4 vs j) ∧ Below wS.heap.size wS wr ∧ (vs.take j).all okN = true)) (fun i _ => 4 - (intOf i).toNat)
      case atStart => exact ⟨0, rfl, by omega, Row4.new wS (part4 vs 0), (Below.refl _ _).alloc (Nat.le_refl _) _, rfl⟩
      case round =>
        obtain ⟨j, rfl, hj, HR⟩ := hrel
        by_cases hlt : (j : Int) < 4
        · have hjv : j < vs.length := by have := HV.out; omega
          have hcw := HC.out j (by omega)
          have hcell : wr.cell? ⟨vb, vo + j, none⟩ = some (.string ⟨(vs.getD j []).toArray⟩) := by
            rw [HR.out.2.1.cell (p := ⟨vb, vo + j, none⟩) (World.block_lt_of_cell? wS _ hcw)]
            exact hcw
          have hpl := HPT.out _ (getD_mem vs j hjv)
          have c2 := fun wx => iread_any (vs.getD j []) wx hpl
          have E3j : Hid (okN (vs.getD j []) = false → readR s = none) := H3.out j (by omega)
          have HA : Hid (okN (vs.getD j []) = true → (vs.take (j + 1)).all okN = true) := fun h => all_take HR.out.2.2 hjv h
          have k0 := HR.out.1.cell j (by omega)
          have f0 := HR.out.1.frozen j
          have hw4 := HR.out.1.setCell j (by omega) (num (vs.getD j []))
          rw [part4_step] at hw4
          have HB2 : Hid (Below wS.heap.size wS (wr.setCell ⟨wS.heap.size, j, none⟩ (.int .i64 (num (vs.getD j []))))) := HR.out.2.1.setCell (p := ⟨wS.heap.size, j, none⟩) (Nat.le_refl _) _
          have HW4 : Hid (Row4 (wr.setCell ⟨wS.heap.size, j, none⟩ (.int .i64 (num (vs.getD j [])))) wS.heap.size (part4 vs (j + 1))) := hw4
          obtain ⟨p, hp⟩ : ∃ p, p = vs.getD j [] := ⟨_, rfl⟩
          rw [← hp] at hcell hpl E3j HA HB2 HW4
          simp only [← hp] at c2
          obtain ⟨b, hb⟩ : ∃ b, b = okN p := ⟨_, rfl⟩
          obtain ⟨x, hx⟩ : ∃ x, x = num p := ⟨_, rfl⟩
          rw [← hb] at E3j HA
          rw [← hx] at HB2 HW4
          simp only [← hb, ← hx] at c2
          unfold S at c2
          clear hp hb hx hcw hw4
          go_wp2_with fail
          refine (c2 _).mono ?_
          rintro e w' ⟨rfl, hw⟩; subst w'
          clear c2
          cases b with
          | false =>
            have HE : Hid (recO s = Rc.zero ∧ isR s = false) := readR_not (E3j.out rfl)
            have R1 := RS.below (HR.out.2.1)
            have B1 := BS.trans (HR.out.2.1.mono BS.size)
            have hs1 := HR.out.2.1.size
            go_wp2_with (refine wpList_putR rfl _ _ rfl w.heap.size Rc.zero Rc.zero rfl rfl R1 ?_; intro w2 R2 G2)
            refine bodyPost_ret (results_R2 rfl _ _ w.heap.size _ _ rfl rfl R2) rfl ?_
            rw [HE.out.1, HE.out.2]
            exact ⟨rfl, B1.grown G2 (by omega) (fun k e => by cases e; exact Nat.le_refl _)⟩
          | true =>
            have HA2 : Hid ((vs.take (j + 1)).all okN = true) := HA.out rfl
            clear HA E3j
            go_wp2
            go_roundw
            case rel => exact ⟨j + 1, by go_num, by omega, HW4.out, HB2.out, HA2.out⟩
            case measure => simp [intOf]; omega
        · obtain rfl : j = 4 := by omega
          have hall : vs.all okN = true := by have := HR.out.2.2; rwa [List.take_of_length_le (by have := HV.out; omega)] at this
          have k0 := HR.out.1.cell 0 (by omega)
          have k1 := HR.out.1.cell 1 (by omega)
          have k2 := HR.out.1.cell 2 (by omega)
          have k3 := HR.out.1.cell 3 (by omega)
          have p0 : part4 vs 4 0 = (recOf vs).e := rfl
          have p1 : part4 vs 4 1 = (recOf vs).s := rfl
          have p2 : part4 vs 4 2 = (recOf vs).t := rfl
          have p3 : part4 vs 4 3 = (recOf vs).n := rfl
          rw [p0] at k0
          rw [p1] at k1
          rw [p2] at k2
          rw [p3] at k3
          clear p0 p1 p2 p3
          obtain ⟨r, hr⟩ : ∃ r, r = recOf vs := ⟨_, rfl⟩
          rw [← hr] at k0 k1 k2 k3 H4 H5
          have R1 := RS.below (HR.out.2.1)
          have B1 := BS.trans (HR.out.2.1.mono BS.size)
          have hs1 := HR.out.2.1.size
          have hgl : wS.heap.size < wr.heap.size := World.block_lt_of_cell? wr _ k0
          have hne : wS.heap.size ≠ wr.heap.size := by omega
          have c3 := fun wx => irecok_any r wx
          have HF : Hid (r.ok = false → recO s = Rc.zero ∧ isR s = false) := fun h => readR_not (H4.out h)
          have HG : Hid (r.ok = true → recO s = r ∧ isR s = true) := fun h => readR_yes (H5.out hall h)
          obtain ⟨b, hb⟩ : ∃ b, b = r.ok := ⟨_, rfl⟩
          rw [← hb] at HF HG
          simp only [← hb] at c3
          clear hb hr hall HR H3 H4 H5 HC HPT HV
          obtain ⟨w3, hw3⟩ : ∃ w3, w3 = wr.alloc (.cells (recA r) 38) := ⟨_, rfl⟩
          have R3 : RecB w3 w.heap.size 38 Rc.zero := by rw [hw3]; exact R1.alloc _
          have Q3 : RecB w3 wr.heap.size 38 r := by rw [hw3]; exact RecB.new wr _ r
          have B3 : Below w.heap.size w w3 := by rw [hw3]; exact B1.alloc B1.size _
          unfold recA at hw3
          unfold RV at c3
          have hrr : w.heap.size ≠ wr.heap.size := by omega
          clear R1 B1
          go_wp2_with fail
          rw [← hw3]
          refine Calls.mono (c3 _) ?_
          rintro e w4 ⟨rfl, b4⟩
          have R4 := R3.below b4
          have Q4 := Q3.below b4
          have B4 := B3.trans (b4.mono B3.size)
          have hs4 := R4.lt
          clear c3 b4 R3 Q3 B3 hw3 k0 k1 k2 k3
          cases b with
          | false =>
            have HE := HF.out rfl
            go_wp2_with (refine wpList_putR rfl _ _ rfl w.heap.size Rc.zero Rc.zero rfl rfl R4 ?_; intro w5 R5 G5)
            refine bodyPost_ret (results_R2 rfl _ _ w.heap.size _ _ rfl rfl R5) rfl ?_
            rw [HE.1, HE.2]
            exact ⟨rfl, B4.grown G5 (by omega) (fun k e => by cases e; exact Nat.le_refl _)⟩
          | true =>
            have HE := HG.out rfl
            go_wp2_with (first | (refine wpList_getR rfl _ rfl wr.heap.size rfl r Q4 ?_) | (refine wpList_putR rfl _ _ rfl w.heap.size r Rc.zero rfl rfl R4 ?_; intro w5 R5 G5))
            refine bodyPost_ret (results_R2 rfl _ _ w.heap.size _ _ rfl rfl R5) rfl ?_
            rw [HE.1, HE.2]
            exact ⟨rfl, B4.grown G5 (by omega) (fun k e => by cases e; exact Nat.le_refl _)⟩
    · have HE : Hid (recO s = Rc.zero ∧ isR s = false) := readR_not (E1.out h4)
      have h4' : ((vs.length : Int) != 4) = true := by simp; omega
      unfold recW
      clear h4 E1 E2 E3 E4 E5 HPT hcells
      go_wp2_with (refine wpList_putR rfl _ _ rfl w.heap.size Rc.zero Rc.zero rfl rfl RS ?_; intro w2 R2 G2)
      refine bodyPost_ret (results_R2 rfl _ _ w.heap.size _ _ rfl rfl R2) rfl ?_
      rw [HE.out.1, HE.out.2]
      exact ⟨rfl, BS.grown G2 (by omega) (fun k e => by cases e; exact Nat.le_refl _)⟩
  · have HE : Hid (recO s = Rc.zero ∧ isR s = false) := readR_not (E2.out hw0)
    have hbeq : (bf == recW) = false := by simpa using hw0
    unfold recW at hbeq
    clear hw0 E1 E2 E3 E4 E5 HPT hcells
    go_wp2_with (refine wpList_putR rfl _ _ rfl w.heap.size Rc.zero Rc.zero rfl rfl RS ?_; intro w2 R2 G2)
    refine bodyPost_ret (results_R2 rfl _ _ w.heap.size _ _ rfl rfl R2) rfl ?_
    rw [HE.out.1, HE.out.2]
    exact ⟨rfl, BS.grown G2 (by omega) (fun k e => by cases e; exact Nat.le_refl _)⟩
end Go.Proofs.YtlkkpolnllbljaaGreatDoor
/- What Recalled of the program answers: it ranges over its iterator, and reads each text. -/
namespace Go.Proofs.YtlkkpolnllbljaaGreatDoor
open Go.ChangeShapes Go.WideShapes Go.ChangeAt Go.RowKit
attribute [local go_sem] Oper.semAt_some

/- A frame's text and its end, neither of them great. -/
abbrev Fr := { x : Bs × Nat // x.1.length ≤ 1048576 ∧ x.2 ≤ 1048576 }
theorem whole_stopsR (n : Nat) (hn : 1 ≤ n) (Bn n0 : Nat) (s : Bs) (hl : s.length ≤ 1048576) (w : World) (hBn : w.cell? ⟨Bn, 0, none⟩ = some (S s)) (hlt : Bn < w.heap.size) (hn0 : n0 ≤ w.heap.size) (ht : ∀ W', Below n0 w W' → Tab W') :
    SeqStopsK Fence.wide n Tryz.prog 185 #[.pointer (some ⟨Bn, 0, none⟩)] (fun x : Fr => #[S x.1.1, .int .i64 (x.1.2 : Nat)]) (Keep Bn n0) (fun ys => ys.map Subtype.val = wholeE s) (fun _ => True) (wholeE s).length w := by
  intro l J Jx W hW hJ hJx hY h0
  have := iter_in n hn l Bn n0 s hl (fun pre W => ∃ pre' : List Fr, pre'.map Subtype.val = pre ∧ J pre' W) (fun pre W => ∃ pre' : List Fr, pre'.map Subtype.val = pre ∧ Jx pre' W) W
    (fun pre A B row h hg hr => by obtain ⟨pre', hm, hj⟩ := h; exact ⟨pre', hm, hJ pre' A B row hj hg hr⟩)
    ((hW.cell (p := ⟨Bn, 0, none⟩) hlt).trans hBn) (fun W' hb => ht W' ((hW.mono hn0).trans hb)) (Nat.le_trans hn0 hW.size)
    (fun pre x W1 h hlen h1 h2 => by
      obtain ⟨pre', hm, hj⟩ := h
      obtain ⟨fn, tmps, assign, body, hy, hR⟩ := hY pre' ⟨x, h1, h2⟩ W1 hj (by rw [← hm, List.length_map] at hlen; exact hlen)
      refine ⟨fn, tmps, assign, body, hy, hR.mono ?_⟩
      rintro e W' (⟨he, hj', hk⟩ | ⟨he, hj'⟩)
      · exact .inl ⟨he, ⟨pre' ++ [⟨x, h1, h2⟩], by simp [hm], hj'⟩, hk⟩
      · exact .inr ⟨he, ⟨pre' ++ [⟨x, h1, h2⟩], by simp [hm], hj'⟩⟩)
    ⟨[], rfl, h0⟩
  refine this.mono ?_
  rintro e W' ⟨hv, h⟩
  refine ⟨hv, ?_⟩
  rcases h with ⟨ys, rfl, pre', hm, hj⟩ | ⟨pre, _, pre', _, hj⟩
  · exact .inl ⟨pre', hm, hj⟩
  · exact .inr ⟨pre', trivial, hj⟩
theorem recB_own {β : Type} (B : Nat) (t : TypeId) (f : β → Rc) : Go.Own (fun s W => RecB W B t (f s)) := by
  rintro s X Y row hv hg hrow
  refine hv.kept hg (fun e' => ?_)
  obtain ⟨o, ho, hc⟩ := hrow B e'.symm
  rw [show X.heap[B]? = _ from hv] at ho
  cases ho
  cases hc
theorem RecB.other {w : World} {g : Nat} {t : TypeId} {r : Rc} (h : RecB w g t r) (a : Addr) (v : Value) (hne : g ≠ a.block) : RecB (w.setCell a v) g t r := (heap_setCell_other w a g v hne).trans h
theorem grown4 (w : World) (g : Nat) (a b c d : Value) : w.grownBy ((((w.setCell ⟨g, 0, none⟩ a).setCell ⟨g, 1, none⟩ b).setCell ⟨g, 2, none⟩ c).setCell ⟨g, 3, none⟩ d) (some g) :=
  (((grownSetS w g 0 a).trans (grownSetS _ g 1 b)).trans (grownSetS _ g 2 c)).trans (grownSetS _ g 3 d)
def recP (pre : List Fr) : Option (Rc × Nat) := recallE (pre.map Subtype.val)
theorem recP_snoc (pre : List Fr) (x : Fr) : recP (pre ++ [x]) = stepE (recP pre) x.1 := by unfold recP; rw [List.map_append]; exact recallE_snoc _ _

set_option maxRecDepth 100000 in
set_option maxHeartbeats 4000000 in
theorem irecall_any (s : Bs) (w : World) (hl : s.length ≤ 1048576) (ht : Tab w) :
    Calls Tryz.prog 106 #[S s] w fun e w' => e = .returned (.tuple #[RV (recR (recallB s)), S (s.take (recAt (recallB s))), .bool (recallB s).isSome]) ∧ Below w.heap.size w w' := by
  unfold S
  refine (callsIn_wide (n := 5)).1 ?_
  refine callsIn_of_wp_marks Tryz.func106 rfl trivial ?_ rfl
  simp only [Tryz.ntmps106, List.size_toArray, List.length_cons, List.length_nil, Nat.reduceAdd, Nat.reduceSub, Array.replicate_succ, Array.replicate_zero, List.push_toArray, List.append_toArray, List.nil_append, List.cons_append]
  gi_wp2_with fail
  refine ⟨trivial, (callsIn_wide.2 (whole_any s _)).mono ?_⟩
  rintro e w' ⟨rfl, rfl⟩
  gi_wp2_with fail
  obtain ⟨h, hh⟩ : ∃ h, h = w.heap.size := ⟨_, rfl⟩
  rw [← hh]
  obtain ⟨W0, hW0⟩ : ∃ W0, W0 = ((((w.alloc (.cells (recA Rc.zero) 38)).alloc (.cells (recA Rc.zero) 38)).alloc (.cells #[.int .i64 0] 2)).alloc (.cells #[.bool false] 4)).alloc (.cells #[.string ⟨s.toArray⟩] 9) := ⟨_, rfl⟩
  have hsz0 : W0.heap.size = h + 5 := by rw [hW0, hh]; simp
  have hB0 : Below w.heap.size w W0 := by
    rw [hW0]
    exact (((((Below.refl _ w).alloc (Nat.le_refl _) _).alloc (by simp) _).alloc (by simp; omega) _).alloc (by simp; omega) _).alloc (by simp; omega) _
  have bZ : RecB W0 h 38 Rc.zero := by
    rw [hW0, hh]
    exact ((((RecB.new w 38 Rc.zero).alloc _).alloc _).alloc _).alloc _
  have bL : RecB W0 (h + 1) 38 Rc.zero := by
    rw [hW0, hh]
    have := RecB.new (w.alloc (.cells (recA Rc.zero) 38)) 38 Rc.zero
    rw [World.size_alloc] at this
    exact ((this.alloc _).alloc _).alloc _
  have bA : Boxed W0 (h + 1 + 1) 2 (.int .i64 0) := by
    rw [hW0, hh]
    have := Boxed.new ((w.alloc (.cells (recA Rc.zero) 38)).alloc (.cells (recA Rc.zero) 38)) 2 (.int .i64 0)
    rw [World.size_alloc, World.size_alloc] at this
    exact (this.alloc _).alloc _
  have bF : Boxed W0 (h + 1 + 1 + 1) 4 (.bool false) := by
    rw [hW0, hh]
    have := Boxed.new (((w.alloc (.cells (recA Rc.zero) 38)).alloc (.cells (recA Rc.zero) 38)).alloc (.cells #[.int .i64 0] 2)) 4 (.bool false)
    rw [World.size_alloc, World.size_alloc, World.size_alloc] at this
    exact this.alloc _
  have bS : Boxed W0 (h + 1 + 1 + 1 + 1) 9 (.string ⟨s.toArray⟩) := by
    rw [hW0, hh]
    have := Boxed.new ((((w.alloc (.cells (recA Rc.zero) 38)).alloc (.cells (recA Rc.zero) 38)).alloc (.cells #[.int .i64 0] 2)).alloc (.cells #[.bool false] 4)) 9 (.string ⟨s.toArray⟩)
    rw [World.size_alloc, World.size_alloc, World.size_alloc, World.size_alloc] at this
    exact this
  unfold recA Rc.zero at hW0
  dsimp only at hW0
  rw [← hW0]
  clear hW0
  refine wpIn_rangeFunc_ownG rfl (by omega) (gf := 185) (lb := #[.pointer (some ⟨h + 1 + 1 + 1 + 1, 0, none⟩)]) rfl trivial (enters_of Tryz.func185 (by kernel_rfl) rfl)
    (whole_stopsR 4 (by omega) (h + 1 + 1 + 1 + 1) w.heap.size s hl W0 bS.cell (by omega) (by omega) (fun W' hb => ht.below (hB0.trans hb))) Keep.trans (Keep.book (by omega)) (Below.refl _ _) (fun _ => rfl)
    (fun pre W => ((RecB W (h + 1) 38 (recR (recP pre)) ∧ Boxed W (h + 1 + 1) 2 (.int .i64 (recAt (recP pre) : Nat))) ∧ (Boxed W (h + 1 + 1 + 1) 4 (.bool (recP pre).isSome) ∧ RecB W h 38 Rc.zero)) ∧ (Boxed W (h + 1 + 1 + 1 + 1) 9 (.string ⟨s.toArray⟩) ∧ Below w.heap.size w W))
    (fun _ _ _ => False)
    (OwnFrom.and (OwnFrom.and (OwnFrom.and (Own.from (recB_own (h + 1) 38 (fun pre : List Fr => recR (recP pre))) _) (Own.from (boxed_own (h + 1 + 1) 2 (fun pre : List Fr => .int .i64 (recAt (recP pre) : Nat))) _)) (OwnFrom.and (Own.from (boxed_own (h + 1 + 1 + 1) 4 (fun pre : List Fr => .bool (recP pre).isSome)) _) (Own.from (recB_own h 38 (fun _ : List Fr => Rc.zero)) _))) (OwnFrom.and (Own.from (boxed_own (h + 1 + 1 + 1 + 1) 9 (fun _ : List Fr => .string ⟨s.toArray⟩)) _) (ownFrom_below (Nat.le_refl _) (by omega))))
    (fun _ _ _ _ _ hs _ _ => hs)
    ⟨⟨⟨bL, bA⟩, bF, bZ⟩, bS, hB0⟩
    (fun x => { tmps := #[.string ⟨s.toArray⟩, undef, .pointer (some ⟨h, 0, none⟩), .string ⟨#[]⟩, .bool false, .pointer (some ⟨h + 1, 0, none⟩), .pointer (some ⟨h + 1 + 1, 0, none⟩), .pointer (some ⟨h + 1 + 1 + 1, 0, none⟩), .string ⟨x.1.1.toArray⟩, .int .i64 (x.1.2 : Nat), undef, undef, .agg #[.int .i64 0, .int .i64 0, .int .i64 0, .int .i64 0], .string ⟨s.toArray⟩, .func (.func 185) #[] #[.pointer (some ⟨h + 1 + 1 + 1 + 1, 0, none⟩)], .string ⟨x.1.1.toArray⟩, .int .i64 (x.1.2 : Nat), undef, undef, undef, undef, undef, undef, undef, undef, undef, undef, undef, undef, undef, undef], defers := [] }) ?assign ?body ?done ?stop
  case assign =>
    intro l x W K hK
    clear hsz0 hB0 bZ bL bA bF bS
    clear hh
    unfold S
    gi_wp2
    exact hK
  case body =>
    rintro l pre x W ⟨⟨⟨hL, hA⟩, hF, hZ⟩, hS, hB⟩ hlt
    have HH : Hid (h = w.heap.size) := hh
    have hwh : h ≤ W.heap.size := by have := hB.size; omega
    clear hsz0 hB0 bZ bL bA bF bS hh
    have c1 := ireadR_any x.1.1 W x.2.1
    have HY : Hid (isR x.1.1 = true → recP (pre ++ [x]) = some (recO x.1.1, x.1.2)) := fun hq => by rw [recP_snoc]; exact step_yes _ _ hq
    have HN : Hid (isR x.1.1 = false → recP (pre ++ [x]) = recP pre) := fun hq => by rw [recP_snoc]; exact step_no _ _ hq
    obtain ⟨a', ha'⟩ : ∃ a', a' = recP (pre ++ [x]) := ⟨_, rfl⟩
    obtain ⟨a, ha⟩ : ∃ a, a = recP pre := ⟨_, rfl⟩
    obtain ⟨r, hr⟩ : ∃ r, r = recO x.1.1 := ⟨_, rfl⟩
    obtain ⟨b, hb⟩ : ∃ b, b = isR x.1.1 := ⟨_, rfl⟩
    obtain ⟨y, hy⟩ : ∃ y, y = x.1.1 := ⟨_, rfl⟩
    obtain ⟨m, hm⟩ : ∃ m, m = x.1.2 := ⟨_, rfl⟩
    have hmb : m ≤ 1048576 := by rw [hm]; exact x.2.2
    have HA' : Hid (a' = recP (pre ++ [x])) := ha'
    rw [← hb, ← ha', ← hr, ← hm] at HY
    rw [← hb, ← ha', ← ha] at HN
    rw [← ha] at hL hA hF
    rw [← hr, ← hb, ← hy] at c1
    rw [← hy, ← hm]
    clear ha ha' hr hb hy hm
    unfold S RV recA at c1
    gi_wp2_with fail
    refine ⟨trivial, (CallsIn.inRound l (callsIn_wide.2 c1)).mono ?_⟩
    rintro e W2 ⟨rfl, b2⟩
    have gr := grown_of_below b2 none
    have hL2 := hL.kept gr (by simp)
    have hA2 := hA.kept gr (by simp)
    have hF2 := hF.kept gr (by simp)
    have hZ2 := hZ.kept gr (by simp)
    have hS2 := hS.kept gr (by simp)
    have hwh2 : h + 4 < W2.heap.size := hS2.lt
    clear gr c1
    cases b with
    | false =>
      have HE := HN.out rfl
      gi_wp2
      have hS3 := hS2.alloc (.cells #[.int .i64 r.e, .int .i64 r.s, .int .i64 r.t, .int .i64 r.n] 38)
      have b3 : Below w.heap.size W (W2.alloc (.cells #[.int .i64 r.e, .int .i64 r.s, .int .i64 r.t, .int .i64 r.n] 38)) := (b2.mono hB.size).alloc (by have := HH.out; omega) _
      refine ⟨((KeepsOthers.of_grownBy (grown_of_below b2 none) (fun _ _ e _ => by cases e)).trans (KeepsOthers.alloc W2 _)).from _, ⟨fun u hu => ?_, b3⟩, ⟨⟨?_, ?_⟩, ?_, hZ2.alloc _⟩, hS3, hB.trans b3⟩
      · rw [hS.cell] at hu
        cases hu
        exact hS3.cell
      · rw [← HA'.out, HE]; exact hL2.alloc _
      · rw [← HA'.out, HE]; exact hA2.alloc _
      · rw [← HA'.out, HE]; exact hF2.alloc _
    | true =>
      have HE := HY.out rfl
      obtain ⟨q, hq⟩ : ∃ q, q = recR a := ⟨_, rfl⟩
      rw [← hq] at hL2
      have hL3 : RecB (W2.alloc (.cells #[.int .i64 r.e, .int .i64 r.s, .int .i64 r.t, .int .i64 r.n] 38)) (h + 1) 38 q := hL2.alloc _
      have hA3 : Boxed (W2.alloc (.cells #[.int .i64 r.e, .int .i64 r.s, .int .i64 r.t, .int .i64 r.n] 38)) (h + 1 + 1) 2 (.int .i64 (recAt a : Nat)) := hA2.alloc _
      have hF3 : Boxed (W2.alloc (.cells #[.int .i64 r.e, .int .i64 r.s, .int .i64 r.t, .int .i64 r.n] 38)) (h + 1 + 1 + 1) 4 (.bool a.isSome) := hF2.alloc _
      have hZ3 : RecB (W2.alloc (.cells #[.int .i64 r.e, .int .i64 r.s, .int .i64 r.t, .int .i64 r.n] 38)) h 38 Rc.zero := hZ2.alloc _
      have hS3 : Boxed (W2.alloc (.cells #[.int .i64 r.e, .int .i64 r.s, .int .i64 r.t, .int .i64 r.n] 38)) (h + 1 + 1 + 1 + 1) 9 (.string ⟨s.toArray⟩) := hS2.alloc _
      have k0 : (W2.alloc (.cells #[.int .i64 r.e, .int .i64 r.s, .int .i64 r.t, .int .i64 r.n] 38)).cell? ⟨h + 1, 0, none⟩ = some (.int .i64 q.e) := hL3.cell 0 rfl
      have f0 : (W2.alloc (.cells #[.int .i64 r.e, .int .i64 r.s, .int .i64 r.t, .int .i64 r.n] 38)).frozen? ⟨h + 1, 0, none⟩ = false := hL3.frozen 0
      have k1 : (W2.alloc (.cells #[.int .i64 r.e, .int .i64 r.s, .int .i64 r.t, .int .i64 r.n] 38)).cell? ⟨h + 1, 1, none⟩ = some (.int .i64 q.s) := hL3.cell 1 rfl
      have f1 : (W2.alloc (.cells #[.int .i64 r.e, .int .i64 r.s, .int .i64 r.t, .int .i64 r.n] 38)).frozen? ⟨h + 1, 1, none⟩ = false := hL3.frozen 1
      have k2 : (W2.alloc (.cells #[.int .i64 r.e, .int .i64 r.s, .int .i64 r.t, .int .i64 r.n] 38)).cell? ⟨h + 1, 2, none⟩ = some (.int .i64 q.t) := hL3.cell 2 rfl
      have f2 : (W2.alloc (.cells #[.int .i64 r.e, .int .i64 r.s, .int .i64 r.t, .int .i64 r.n] 38)).frozen? ⟨h + 1, 2, none⟩ = false := hL3.frozen 2
      have k3 : (W2.alloc (.cells #[.int .i64 r.e, .int .i64 r.s, .int .i64 r.t, .int .i64 r.n] 38)).cell? ⟨h + 1, 3, none⟩ = some (.int .i64 q.n) := hL3.cell 3 rfl
      have f3 : (W2.alloc (.cells #[.int .i64 r.e, .int .i64 r.s, .int .i64 r.t, .int .i64 r.n] 38)).frozen? ⟨h + 1, 3, none⟩ = false := hL3.frozen 3
      have ka : (W2.alloc (.cells #[.int .i64 r.e, .int .i64 r.s, .int .i64 r.t, .int .i64 r.n] 38)).cell? ⟨h + 1 + 1, 0, none⟩ = some (.int .i64 (recAt a : Nat)) := hA3.cell
      have fa : (W2.alloc (.cells #[.int .i64 r.e, .int .i64 r.s, .int .i64 r.t, .int .i64 r.n] 38)).frozen? ⟨h + 1 + 1, 0, none⟩ = false := hA3.frozen
      have kf : (W2.alloc (.cells #[.int .i64 r.e, .int .i64 r.s, .int .i64 r.t, .int .i64 r.n] 38)).cell? ⟨h + 1 + 1 + 1, 0, none⟩ = some (.bool a.isSome) := hF3.cell
      have ff : (W2.alloc (.cells #[.int .i64 r.e, .int .i64 r.s, .int .i64 r.t, .int .i64 r.n] 38)).frozen? ⟨h + 1 + 1 + 1, 0, none⟩ = false := hF3.frozen
      have n1 : h + 1 ≠ W2.heap.size := by omega
      have n2 : h + 1 + 1 ≠ W2.heap.size := by omega
      have n3 : h + 1 + 1 + 1 ≠ W2.heap.size := by omega
      gi_wp2
      have b3 : Below w.heap.size W (W2.alloc (.cells #[.int .i64 r.e, .int .i64 r.s, .int .i64 r.t, .int .i64 r.n] 38)) := (b2.mono hB.size).alloc (by have := HH.out; omega) _
      have K3 := (KeepsOthers.of_grownBy (grown_of_below b2 none) (fun _ _ e _ => by cases e)).trans (KeepsOthers.alloc W2 (.cells #[.int .i64 r.e, .int .i64 r.s, .int .i64 r.t, .int .i64 r.n] 38))
      obtain ⟨W3, hW3⟩ : ∃ W3, W3 = W2.alloc (.cells #[.int .i64 r.e, .int .i64 r.s, .int .i64 r.t, .int .i64 r.n] 38) := ⟨_, rfl⟩
      have hs3 : h + 4 < W3.heap.size := by rw [hW3, World.size_alloc]; omega
      rw [← hW3] at b3 K3 hL3 hA3 hF3 hZ3 hS3 ⊢
      clear k0 k1 k2 k3 f0 f1 f2 f3 ka fa kf ff n1 n2 n3 hW3
      have G4 := grown4 W3 (h + 1) (.int .i64 r.e) (.int .i64 r.s) (.int .i64 r.t) (.int .i64 r.n)
      have K4 := (((K3.trans (KeepsOthers.setCell W3 ⟨h + 1, 0, none⟩ (.int .i64 r.e))).trans (KeepsOthers.setCell _ ⟨h + 1, 1, none⟩ (.int .i64 r.s))).trans (KeepsOthers.setCell _ ⟨h + 1, 2, none⟩ (.int .i64 r.t))).trans (KeepsOthers.setCell _ ⟨h + 1, 3, none⟩ (.int .i64 r.n))
      have L4 := hL3.set4 r
      have A4 := hA3.kept G4 (by intro e; have := Option.some.inj e; omega)
      have F4 := hF3.kept G4 (by intro e; have := Option.some.inj e; omega)
      have Z4 := hZ3.kept G4 (by intro e; have := Option.some.inj e; omega)
      have S4 := hS3.kept G4 (by intro e; have := Option.some.inj e; omega)
      have b4 := b3.grown G4 (by have := HH.out; omega) (fun k e => by cases e; have := HH.out; omega)
      have s4 := G4.size
      clear G4 K3 hL3 hA3 hF3 hZ3 hS3 b3
      obtain ⟨W4, hW4⟩ : ∃ W4, W4 = (((W3.setCell ⟨h + 1, 0, none⟩ (.int .i64 r.e)).setCell ⟨h + 1, 1, none⟩ (.int .i64 r.s)).setCell ⟨h + 1, 2, none⟩ (.int .i64 r.t)).setCell ⟨h + 1, 3, none⟩ (.int .i64 r.n) := ⟨_, rfl⟩
      rw [← hW4] at K4 L4 A4 F4 Z4 S4 b4 s4 ⊢
      clear hW4
      have G5 := grownSetS W4 (h + 1 + 1) 0 (.int .i64 (m : Nat))
      have G6 := grownSetS (W4.setCell ⟨h + 1 + 1, 0, none⟩ (.int .i64 (m : Nat))) (h + 1 + 1 + 1) 0 (.bool true)
      have hS6 := (S4.kept G5 (by intro e; have := Option.some.inj e; omega)).kept G6 (by intro e; have := Option.some.inj e; omega)
      have b6 := (b4.grown G5 (by have := HH.out; omega) (fun k e => by cases e; have := HH.out; omega)).grown G6 (by have := HH.out; have := G5.size; omega) (fun k e => by cases e; have := HH.out; omega)
      refine ⟨((K4.trans (KeepsOthers.setCell W4 ⟨h + 1 + 1, 0, none⟩ (.int .i64 (m : Nat)))).trans (KeepsOthers.setCell _ ⟨h + 1 + 1 + 1, 0, none⟩ (.bool true))).from _, ⟨fun u hu => ?_, b6⟩, ⟨⟨?_, ?_⟩, ?_, (Z4.kept G5 (by intro e; have := Option.some.inj e; omega)).kept G6 (by intro e; have := Option.some.inj e; omega)⟩, hS6, hB.trans b6⟩
      · rw [hS.cell] at hu
        cases hu
        exact hS6.cell
      · rw [← HA'.out, HE]; exact (L4.kept G5 (by intro e; have := Option.some.inj e; omega)).kept G6 (by intro e; have := Option.some.inj e; omega)
      · rw [← HA'.out, HE]; exact (A4.set (.int .i64 (m : Nat))).kept G6 (by intro e; have := Option.some.inj e; omega)
      · rw [← HA'.out, HE]; exact (F4.kept G5 (by intro e; have := Option.some.inj e; omega)).set (.bool true)
  case done =>
    rintro D ys W hD hys ⟨⟨⟨hL, hA⟩, hF, hZ⟩, hS, hB⟩ hK
    have hre : recP ys = recallB s := by unfold recP recallB; rw [hys]
    rw [hre] at hL hA hF
    have hla := recall_le s
    have hsz : (⟨s.toArray⟩ : ByteArray).size = s.length := rfl
    have c1 := fun wx => iclone_any (s.take (recAt (recallB s))) wx (by simp; omega)
    have hex := extract_cut s 0 (recAt (recallB s))
    have e0 : cutB s 0 (recAt (recallB s)) = s.take (recAt (recallB s)) := by simp [cutB]
    rw [e0] at hex
    obtain ⟨r, hr⟩ : ∃ r, r = recR (recallB s) := ⟨_, rfl⟩
    obtain ⟨b, hb⟩ : ∃ b, b = (recallB s).isSome := ⟨_, rfl⟩
    obtain ⟨t, hte⟩ : ∃ t, t = s.take (recAt (recallB s)) := ⟨_, rfl⟩
    obtain ⟨m, hm⟩ : ∃ m, m = recAt (recallB s) := ⟨_, rfl⟩
    have HE : Hid (recR (recallB s) = r ∧ s.take (recAt (recallB s)) = t ∧ (recallB s).isSome = b ∧ h = w.heap.size) := ⟨hr.symm, hte.symm, hb.symm, hh⟩
    rw [← hr] at hL
    rw [← hb] at hF
    rw [← hm] at hA
    rw [← hte] at hex
    simp only [← hte] at c1
    rw [← hm] at hex hla
    have hla' : (m : Int) ≤ s.length := by omega
    unfold S at c1
    have k0 : W.cell? ⟨h + 1, 0, none⟩ = some (.int .i64 r.e) := hL.cell 0 rfl
    have k1 : W.cell? ⟨h + 1, 1, none⟩ = some (.int .i64 r.s) := hL.cell 1 rfl
    have k2 : W.cell? ⟨h + 1, 2, none⟩ = some (.int .i64 r.t) := hL.cell 2 rfl
    have k3 : W.cell? ⟨h + 1, 3, none⟩ = some (.int .i64 r.n) := hL.cell 3 rfl
    have ka := hA.cell
    have kf := hF.cell
    have HD : Hid (h + 5 ≤ D) := by rw [Hid, ← hsz0]; exact hD
    have hBd : Below w.heap.size w W.drew := below_drewN hB 1
    have hKd : W.drew.heap[D]? = some (.deferred (some [])) := hK
    have hDl : D < W.drew.heap.size := (Array.getElem?_eq_some_iff.1 hKd).1
    have hwD : w.heap.size ≤ W.drew.heap.size := hBd.size
    clear hsz0 hB0 bZ bL bA bF bS hh hr hb hte hm hre hys e0
    have hLd : RecB W.drew (h + 1) 38 r := hL
    have hFd : Boxed W.drew (h + 1 + 1 + 1) 4 (.bool b) := hF
    have hZd : RecB W.drew h 38 Rc.zero := hZ
    have hfo : Tryz.prog.follows .mixedOrders = true := by kernel_rfl
    gi_wp2
    refine Code.wpIn_mono (Q := NoPanic _) NoPanic.imp ?_
    gi_region_with_o (refine ⟨trivial, (callsIn_wide.2 (c1 _)).mono ?_⟩; rintro e W3 ⟨rfl, b3⟩; have hL3 := hLd.kept (grown_of_below b3 none) (by simp); have hF3 := hFd.kept (grown_of_below b3 none) (by simp); have hZ3 := hZd.kept (grown_of_below b3 none) (by simp); have k0' : W3.cell? ⟨h + 1, 0, none⟩ = some (.int .i64 r.e) := hL3.cell 0 rfl; have k1' : W3.cell? ⟨h + 1, 1, none⟩ = some (.int .i64 r.s) := hL3.cell 1 rfl; have k2' : W3.cell? ⟨h + 1, 2, none⟩ = some (.int .i64 r.t) := hL3.cell 2 rfl; have k3' : W3.cell? ⟨h + 1, 3, none⟩ = some (.int .i64 r.n) := hL3.cell 3 rfl; have kf' := hF3.cell; have z0 : W3.cell? ⟨h, 0, none⟩ = some (.int .i64 0) := hZ3.cell 0 rfl; have z1 : W3.cell? ⟨h, 1, none⟩ = some (.int .i64 0) := hZ3.cell 1 rfl; have z2 : W3.cell? ⟨h, 2, none⟩ = some (.int .i64 0) := hZ3.cell 2 rfl; have z3 : W3.cell? ⟨h, 3, none⟩ = some (.int .i64 0) := hZ3.cell 3 rfl; have f0 := hZ3.frozen 0; have f1 := hZ3.frozen 1; have f2 := hZ3.frozen 2; have f3 := hZ3.frozen 3)
    all_goals refine NoPanic.normal ?_
    all_goals gi_wp2
    all_goals
      have G4 := grown4 W3 h (.int .i64 r.e) (.int .i64 r.s) (.int .i64 r.t) (.int .i64 r.n)
      have R4 := hZ3.set4 r
      have hK3 : W3.heap[D]? = some (.deferred (some [])) := (b3.block D hDl).trans hKd
      have hDl3 : D < W3.heap.size := (Array.getElem?_eq_some_iff.1 hK3).1
      have hK4 := (G4.block D hDl3 (by intro e; have := Option.some.inj e; have := HD.out; omega)).trans hK3
      have B4 := (hBd.trans (b3.mono hwD)).grown G4 (by have := b3.size; omega) (fun k e => by cases e; have := HE.out.2.2.2; omega)
      refine ⟨by simp, .inl ⟨_, _, rfl, run_takeDeferred hK4, ?_⟩⟩
      refine ⟨_, results_R3 rfl _ _ h r _ _ rfl rfl rfl (R4.kept (grownBy_putObj' _ D _) (by intro e; have := Option.some.inj e; have := HD.out; omega)), ?_, ?_⟩
      · rw [HE.out.1, HE.out.2.1, HE.out.2.2.1]
        rfl
      · exact B4.trans (belowK_b (w := w) (Nat.le_refl _) _ D _ _ (by have := HD.out; have := HE.out.2.2.2; omega) hK4 rfl rfl)
  case stop =>
    rintro D c pre W _ _ h _
    exact h.elim
end Go.Proofs.YtlkkpolnllbljaaGreatDoor
