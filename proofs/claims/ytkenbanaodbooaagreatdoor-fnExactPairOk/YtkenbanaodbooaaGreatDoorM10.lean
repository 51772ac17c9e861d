/- Frames one behind the other: what Frames and Last of the model answer. -/
import Derived.Test.YtkenbanaodbooaaGreatDoorM9
namespace Go.Proofs.YtkenbanaodbooaaGreatDoor
open Go.ChangeShapes Go.WideShapes Go.ChangeAt Go.RowKit

def framesN : Nat → Bs → List Bs × Nat
  | 0, _ => ([], 0)
  | k + 1, s => if (firstB s).2 = 0 then ([], 0) else ((firstB s).1 :: (framesN k (s.drop (firstB s).2)).1, (firstB s).2 + (framesN k (s.drop (firstB s).2)).2)
def framesB (s : Bs) : List Bs × Nat := framesN 2000 s
def FrInv (s : Bs) (out : List Bs) (a : Nat) : Prop := framesB s = (out ++ (framesN (2000 - out.length) (s.drop a)).1, a + (framesN (2000 - out.length) (s.drop a)).2)

theorem firstB_le (s : Bs) : (firstB s).2 ≤ s.length := by
  have h := lineN_le s
  unfold firstB
  dsimp only
  split
  · simp
  · rename_i hc
    split
    · split
      · simp; omega
      · simp
    · simp
theorem FrInv.start (s : Bs) : FrInv s [] 0 := by simp [FrInv, framesB]
theorem FrInv.next {s : Bs} {out : List Bs} {a : Nat} (h : FrInv s out a) (hl : out.length < 2000) (hn : (firstB (s.drop a)).2 ≠ 0) : FrInv s (out ++ [(firstB (s.drop a)).1]) (a + (firstB (s.drop a)).2) := by
  unfold FrInv at h ⊢
  rw [h]
  obtain ⟨k, hk⟩ : ∃ k, 2000 - out.length = k + 1 := ⟨2000 - out.length - 1, by omega⟩
  have hk2 : 2000 - (out ++ [(firstB (s.drop a)).1]).length = k := by simp; omega
  rw [hk, hk2, framesN, if_neg hn, List.drop_drop]
  simp [Nat.add_assoc]
theorem FrInv.stop {s : Bs} {out : List Bs} {a : Nat} (h : FrInv s out a) (hn : (firstB (s.drop a)).2 = 0 ∨ 2000 ≤ out.length) : framesB s = (out, a) := by
  rw [h]
  rcases hn with hn | hn
  · cases hk : 2000 - out.length with
    | zero => simp [framesN]
    | succ k => rw [framesN, if_pos hn]; simp
  · rw [show 2000 - out.length = 0 by omega]; simp [framesN]

set_option maxRecDepth 20000 in
set_option maxHeartbeats 2000000 in
theorem sframes_any (s : Bs) (w : World) (hl : s.length ≤ 1048576) :
    Calls Tryz.prog 65 #[S s] w fun e w' => ∃ u, e = .returned (.tuple #[u, .int .i64 (framesB s).2]) ∧ OwnS w' w.heap.size u (framesB s).1 ∧ Below w.heap.size w w' := by
  obtain ⟨i0, hi, hz0, hz1, hz2⟩ := info_parts Tryz.infoS
  have hsz : (⟨s.toArray⟩ : ByteArray).size = s.length := rfl
  unfold S
  go_enter Tryz.func65, Tryz.ntmps65
  go_wp2
  go_loopw [4, 5] (fun o u wr => ∃ (out : List Bs) (a : Nat) (ao : Option Addr) (cap : Nat), o = .slice ao out.length cap ∧ u = .int .i64 a ∧ (a : Int) ≤ s.length ∧ (out.length : Int) ≤ 2000 ∧ Hid (OwnS wr w.heap.size (.slice ao out.length cap) out ∧ Below w.heap.size w wr ∧ FrInv s out a)) (fun o _ _ => 2000 - (match o with | .slice _ n _ => n | _ => 0))
  case atStart => exact ⟨[], 0, _, _, rfl, rfl, by omega, by simp, World.ownsRow_lit w #[] 0 (Nat.le_refl _) (Nat.zero_le _) rfl, (Below.refl _ _).alloc (Nat.le_refl _) _, FrInv.start s⟩
  case round =>
    obtain ⟨out, a, ao, cap, rfl, rfl, ha, ho, HR⟩ := hrel
    by_cases hlt : (out.length : Int) < 2000
    · have hex := extract_cut s a s.length
      have e0 : cutB s a s.length = s.drop a := by simp [cutB]
      rw [e0] at hex
      have c1 := sfirstF_any (s.drop a) wr (by simp; omega)
      have hfl := firstB_le (s.drop a)
      have hdl : (s.drop a).length = s.length - a := by simp
      obtain ⟨q, hq⟩ : ∃ q, q = s.drop a := ⟨_, rfl⟩
      rw [← hq] at hex c1 hfl hdl
      obtain ⟨t, ht⟩ : ∃ t, t = (firstB q).1 := ⟨_, rfl⟩
      obtain ⟨n, hn⟩ : ∃ n, n = (firstB q).2 := ⟨_, rfl⟩
      rw [← ht, ← hn] at c1
      rw [← hn] at hfl
      unfold S at c1
      have HN : Hid (n ≠ 0 → FrInv s (out ++ [t]) (a + n)) := fun h => by
        rw [ht, hn, hq]; exact HR.out.2.2.next (by omega) (by rw [← hq, ← hn]; exact h)
      have HZ : Hid (n = 0 → framesB s = (out, a)) := fun h => HR.out.2.2.stop (.inl (by rw [← hq, ← hn]; exact h))
      clear e0 hq ht hn
      go_wp2_with fail
      refine c1.mono ?_
      rintro e w1 ⟨rfl, b1⟩
      clear c1
      have HR1 : Hid (OwnS w1 w.heap.size (.slice ao out.length cap) out ∧ Below w.heap.size w w1) := ⟨HR.out.1.below b1, HR.out.2.1.trans (b1.mono HR.out.2.1.size)⟩
      clear b1 HR
      by_cases h0 : n = 0
      · subst h0
        have HF := HZ.out rfl
        go_wp2_with fail
        go_ret2
        rw [HF]
        exact ⟨_, rfl, HR1.out.1, HR1.out.2⟩
      · have h0' : ((n : Int) == 0) = false := by simpa using h0
        have hown := HR1.out.1
        have hbs := HR1.out.2.size
        unfold OwnS at hown
        go_wp2_with (at_builtin; refine wpList_append_own _ rfl _ _ 111 rfl w.heap.size 9 i0 (.string ⟨#[]⟩) 1 16 Tryz.underlying111 hi hz0 hz1 hz2 rfl (by decide) _ _ _ rfl (hown.alloc _) _ 1 1 [S t] rfl rfl (litS1 w1 t) (by simp [Value.oneCell', S]) (by unfold maxLen; omega) (by omega) (by simp; omega) ?_)
        intro v' w2 hown' hgrow _
        have HO : Hid (OwnS w2 w.heap.size v' (out ++ [t]) ∧ Below w.heap.size w w2) := appendS HR1.out.1 HR1.out.2 hown' hgrow
        clear hown hown' hgrow HR1
        obtain ⟨ao2, cap2, hev, -⟩ := HO.out.1.reads
        subst hev
        go_wp2
        go_roundw
        case rel => exact ⟨out ++ [t], a + n, ao2, cap2, rfl, by go_num, by omega, by simp; omega, HO.out.1, HO.out.2, HN.out h0⟩
        case measure => simp; omega
    · have HF : Hid (framesB s = (out, a)) := HR.out.2.2.stop (.inr (by omega))
      go_wp2
      go_ret2
      rw [HF.out]
      exact ⟨_, rfl, HR.out.1, HR.out.2.1⟩

theorem OwnS.lenle {w : World} {base : Nat} {v : Value} {xs : List Bs} (h : OwnS w base v xs) : xs.length ≤ 9223372036854775807 := by
  obtain ⟨_, cap, _, h1, ⟨h2, _⟩, _⟩ := h.reads
  unfold maxLen at h2
  omega

def lastB (s : Bs) : Bs := (framesB s).1.getLastD []
def hasB (s : Bs) : Bool := !(framesB s).1.isEmpty
end Go.Proofs.YtkenbanaodbooaaGreatDoor
/- What the law on frames asks, of plain lists of bytes: a frame is read from its own bytes, frames one behind the other are their texts, and cut anywhere what was whole ahead of the cut. -/
namespace Go.Proofs.YtkenbanaodbooaaGreatDoor
open Go.RowKit

theorem digit_ne (n : Nat) : digit n ≠ 10 ∧ digit n ≠ 32 := by
  have h := Nat.mod_lt n (show 0 < 10 by omega)
  unfold digit
  have : ∀ d, d < 10 → UInt8.ofNat (48 + d) ≠ 10 ∧ UInt8.ofNat (48 + d) ≠ 32 := by decide
  exact this _ h
theorem dec_ne (n : Nat) : ∀ b ∈ dec n, b ≠ 10 ∧ b ≠ 32 := by
  induction n using Nat.strongRecOn with
  | ind n ih =>
    intro b hb
    rw [dec] at hb
    split at hb
    · simp at hb; subst hb; exact digit_ne n
    · rcases List.mem_append.1 hb with h | h
      · exact ih (n / 10) (by omega) b h
      · simp at h; subst h; exact digit_ne n

theorem splitB_app (c : UInt8) (a r : Bs) (h : ∀ b ∈ a, b ≠ c) : splitB c (a ++ c :: r) = a :: splitB c r := by
  induction a with
  | nil => simp [splitB]
  | cons b a ih =>
    rw [List.cons_append, splitB, if_neg (h b (by simp)), ih (fun x hx => h x (by simp [hx]))]
    rfl

def body (t : Bs) : Bs := dec t.length ++ 32 :: (dec (chk t).toNat ++ 32 :: t)
theorem framed_body (t : Bs) : framed t = body t ++ [10] := by simp [framed, body]
theorem plain_ne {t : Bs} (h : plainB t = true) : ∀ b ∈ t, b ≠ 10 := by
  simp [plainB] at h; exact h.1
theorem plain_len {t : Bs} (h : plainB t = true) : t.length ≤ 300 := by
  simp [plainB] at h; exact h.2
theorem body_ne {t : Bs} (h : plainB t = true) : (body t).all (fun b => b != 10) = true := by
  rw [List.all_eq_true]
  intro b hb
  simp only [bne_iff_ne, ne_eq]
  unfold body at hb
  rcases List.mem_append.1 hb with hb | hb
  · exact (dec_ne _ b hb).1
  · rcases List.mem_cons.1 hb with rfl | hb
    · decide
    · rcases List.mem_append.1 hb with hb | hb
      · exact (dec_ne _ b hb).1
      · rcases List.mem_cons.1 hb with rfl | hb
        · decide
        · exact plain_ne h b hb
theorem body_len {t : Bs} (h : plainB t = true) : (body t).length ≤ 330 := by
  have h1 := dec_len 2 t.length (by have := plain_len h; omega)
  have h2 := dec_len 5 (chk t).toNat (by have := chk_bd t; omega)
  have h3 := plain_len h
  simp [body]; omega
theorem framed_len (t : Bs) : (framed t).length = (body t).length + 1 := by simp [framed_body]
theorem cut_mid (a b : Bs) (n : Nat) (h : n = a.length) (m : Nat) (hm : m = (a ++ b).length) (r : Bs) : cutB (a ++ b ++ r) n m = b := by
  subst h hm
  unfold cutB
  rw [List.take_left, List.drop_left]

/- A frame is read from its own bytes, whatever lies behind it. -/
theorem firstB_yes {t : Bs} (h : plainB t = true) (r : Bs) : firstB (framed t ++ r) = (t, (framed t).length) := by
  have hl : lineN (framed t ++ r) = (body t).length := by
    rw [framed_body, List.append_assoc, lineN_app _ _ (body_ne h)]
    simp [lineN_cons]
  have hb := body_len h
  have hf := framed_len t
  have htake : (framed t ++ r).take (body t).length = body t := by
    rw [framed_body, List.append_assoc, List.take_left]
  have htake1 : (framed t ++ r).take ((body t).length + 1) = framed t := by
    rw [← hf, List.take_left]
  have hsp : splitB 32 (body t) = dec t.length :: dec (chk t).toNat :: splitB 32 t := by
    unfold body
    rw [splitB_app 32 _ _ (fun b hb => (dec_ne _ b hb).2), splitB_app 32 _ _ (fun b hb => (dec_ne _ b hb).2)]
  have hcut : cutB (framed t ++ r) ((dec t.length).length + (dec (chk t).toNat).length + 2) (body t).length = t := by
    have e : framed t ++ r = (dec t.length ++ 32 :: (dec (chk t).toNat ++ [32])) ++ t ++ (10 :: r) := by simp [framed]
    rw [e]
    refine cut_mid _ _ _ (by simp; omega) _ ?_ _
    simp [body]
  unfold firstB
  rw [hl]
  have hno : ¬ ((body t).length = (framed t ++ r).length ∨ 330 < (body t).length) := by
    rw [List.length_append, hf]; omega
  simp only [hno, if_false, htake, htake1, hsp]
  cases hs : splitB 32 t with
  | nil => exact absurd hs (splitB_ne 32 t)
  | cons p ps =>
    simp only [hcut]
    simp [h, hf]

theorem firstB_sound (s : Bs) (h : (firstB s).2 ≠ 0) : plainB (firstB s).1 = true ∧ framed (firstB s).1 = s.take (firstB s).2 ∧ (firstB s).2 = (framed (firstB s).1).length := by
  have hl := lineN_le s
  unfold firstB at h ⊢
  dsimp only at h ⊢
  split at h
  · exact absurd rfl h
  · rename_i hno
    rw [if_neg hno] at ⊢
    split at h
    · rename_i a b c rest heq
      split at h
      · rename_i hc
        simp only [Bool.and_eq_true, decide_eq_true_eq] at hc
        simp only [hc, decide_true, Bool.and_self, if_true]
        refine ⟨trivial, trivial, ?_⟩
        simp; omega
      · exact absurd rfl h
    · exact absurd rfl h
theorem firstB_zero (s : Bs) (h : (firstB s).2 = 0) : firstB s = ([], 0) := by
  unfold firstB at h ⊢
  dsimp only at h ⊢
  split
  · rfl
  · rename_i hno
    rw [if_neg hno] at h
    split
    · rename_i a b c rest heq
      simp only [heq] at h
      split
      · rename_i hc
        rw [if_pos hc] at h
        simp at h
      · rfl
    · rfl

def cat (ts : List Bs) : Bs := (ts.map framed).flatten
theorem cat_cons (t : Bs) (ts : List Bs) : cat (t :: ts) = framed t ++ cat ts := by simp [cat]
theorem cat_snoc (ts : List Bs) (t : Bs) : cat (ts ++ [t]) = cat ts ++ framed t := by simp [cat]
theorem framed_pos (t : Bs) : 0 < (framed t).length := by rw [framed_len]; omega

theorem framesN_cat (ts : List Bs) (r : Bs) (hp : ∀ t ∈ ts, plainB t = true) (k : Nat) (hk : ts.length ≤ k) (hr : k = ts.length ∨ (firstB r).2 = 0) : framesN k (cat ts ++ r) = (ts, (cat ts).length) := by
  induction ts generalizing k with
  | nil =>
    cases k with
    | zero => simp [framesN, cat]
    | succ k =>
      have h0 : (firstB r).2 = 0 := by
        rcases hr with h | h
        · simp at h
        · exact h
      rw [framesN]
      simp [cat, h0]
  | cons t ts ih =>
    cases k with
    | zero => simp at hk
    | succ k =>
      have ht := firstB_yes (hp t (by simp)) (cat ts ++ r)
      have hpos := framed_pos t
      rw [framesN, cat_cons, List.append_assoc, ht]
      have hne : ¬ (framed t).length = 0 := by omega
      simp only [hne, if_false, List.drop_left]
      rw [ih (fun x hx => hp x (by simp [hx])) k (by simpa using hk) (by rcases hr with h | h; exact .inl (by simpa using h); exact .inr h)]
      simp
theorem framesN_sound (k : Nat) : ∀ s : Bs, (∀ t ∈ (framesN k s).1, plainB t = true) ∧ s.take (framesN k s).2 = cat (framesN k s).1 ∧ (framesN k s).2 = (cat (framesN k s).1).length ∧ (framesN k s).1.length ≤ k := by
  induction k with
  | zero => intro s; simp [framesN, cat]
  | succ k ih =>
    intro s
    rw [framesN]
    by_cases h : (firstB s).2 = 0
    · simp [h, cat]
    · obtain ⟨h1, h2, h3⟩ := firstB_sound s h
      obtain ⟨i1, i2, i3, i4⟩ := ih (s.drop (firstB s).2)
      simp only [h, if_false]
      refine ⟨fun t ht => ?_, ?_, ?_, ?_⟩
      · rcases List.mem_cons.1 ht with rfl | ht
        · exact h1
        · exact i1 t ht
      · rw [cat_cons, List.take_add, i2, ← h2]
      · rw [cat_cons, List.length_append, ← i3, ← h3]
      · simp; omega
theorem framesB_sound (s : Bs) : (∀ t ∈ (framesB s).1, plainB t = true) ∧ s.take (framesB s).2 = cat (framesB s).1 ∧ (framesB s).2 = (cat (framesB s).1).length ∧ (framesB s).1.length ≤ 2000 := framesN_sound 2000 s
theorem framesB_le (s : Bs) : (framesB s).2 ≤ s.length := by
  obtain ⟨_, h2, h3, _⟩ := framesB_sound s
  have := congrArg List.length h2
  rw [List.length_take] at this
  omega
theorem firstB_line {q : Bs} (h : q.all (fun b => b != 10) = true) : (firstB q).2 = 0 := by
  have : lineN q = q.length := lineN_end q (by rw [List.take_length]; exact h)
  simp [firstB, this]
/- Cut in the midst of the last frame: what was whole ahead of it. -/
theorem framesB_cut (s : Bs) (ts : List Bs) (t : Bs) (p : Nat) (h : (framesB s).1 = ts ++ [t]) (hp : p < (framed t).length) :
    framesB (s.take ((framesB s).2 - 1 - p)) = (ts, (framesB s).2 - (framed t).length) := by
  obtain ⟨h1, h2, h3, h4⟩ := framesB_sound s
  rw [h] at h1 h2 h3 h4
  rw [cat_snoc] at h2 h3
  rw [List.length_append] at h3
  have ht := h1 t (by simp)
  have hcut : s.take ((framesB s).2 - 1 - p) = cat ts ++ (body t).take ((framed t).length - 1 - p) := by
    have e1 : s.take ((framesB s).2 - 1 - p) = (s.take (framesB s).2).take ((framesB s).2 - 1 - p) := by rw [List.take_take]; congr 1; omega
    rw [e1, h2, List.take_append, List.take_of_length_le (by omega)]
    congr 1
    have hfl := framed_len t
    have e2 : (framesB s).2 - 1 - p - (cat ts).length = (framed t).length - 1 - p := by omega
    rw [e2]
    have e3 : (framed t).length - 1 - p ≤ (body t).length := by omega
    generalize (framed t).length - 1 - p = m at e3 ⊢
    rw [framed_body, List.take_append_of_le_length e3]
  rw [hcut]
  have hz : (firstB ((body t).take ((framed t).length - 1 - p))).2 = 0 := firstB_line (by
    rw [List.all_eq_true]
    intro b hb
    exact List.all_eq_true.1 (body_ne ht) b (List.mem_of_mem_take hb))
  have := framesN_cat ts _ (fun x hx => h1 x (by simp [hx])) 2000 (by simp at h4; omega) (.inr hz)
  rw [framesB, this]
  congr 1
  omega
theorem framesB_twice (t : Bs) (h : plainB t = true) : framesB (framed t ++ framed t) = ([t, t], 2 * (framed t).length) := by
  have := framesN_cat [t, t] [] (by simp [h]) 2000 (by simp) (.inr (firstB_line (by simp)))
  rw [framesB]
  simp only [cat, List.map_cons, List.map_nil, List.flatten_cons, List.flatten_nil, List.append_nil] at this
  rw [this]
  simp; omega
end Go.Proofs.YtkenbanaodbooaaGreatDoor
