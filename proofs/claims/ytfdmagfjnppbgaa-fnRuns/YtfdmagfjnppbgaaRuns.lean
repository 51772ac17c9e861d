/- Runs, the program's and the model's: each answers the same list, in new memory, and writes nothing that was there. -/
import Derived.Test.YtfdmagfjnppbgaaMem
import Derived.Test.YtfdmagfjnppbgaaSeek
import Derived.WalkSpells
namespace Go.Proofs.Ytfdmagfjnppbgaa
open Go.ChangeShapes Go.WideShapes Go.ChangeAt Go.RowKit

theorem Try.infoI : (Try.prog.info? 2).map (fun i => (i.zero, i.size, i.bytes)) = some (some (.int .i64 0), 1, 8) := by kernel_rfl

def runsFrom (s : Int) : Nat → Nat → List Int
  | 0, _ => []
  | f + 1, at_ => if at_ < 8 then (at_ : Int) :: (((seekI (lackP s) at_ : Nat) : Int) - at_) :: runsFrom s f (seekI (hasP s) (seekI (lackP s) at_)) else []
def runsI (s : Int) : List Int := if setOk s then runsFrom s 9 (seekI (hasP s) 0) else []

/- The model's way: one block behind the other. -/
def lastUp : List Int → List Int
  | [] => []
  | [x] => [x + 1]
  | x :: y :: r => x :: lastUp (y :: r)
def stepR (s : Int) (xs : List Int) (i : Nat) : List Int :=
  if inB s i then (if 0 < i ∧ inB s ((i : Int) - 1) = true then lastUp xs else xs ++ [(i : Int), 1]) else xs
def upR (s : Int) : Nat → List Int
  | 0 => []
  | k + 1 => stepR s (upR s k) k

theorem all_nat (P : Int → Prop) (h : ∀ n : Nat, n < 256 → P n) (s : Int) (h0 : 0 ≤ s) (h1 : s < 256) : P s := by
  have := h s.toNat (by omega)
  rwa [show ((s.toNat : Nat) : Int) = s by omega] at this

theorem runs_eq (s : Int) : upR s 8 = runsI s := by
  by_cases h0 : 0 ≤ s
  · by_cases h1 : s < 256
    · exact all_nat (fun s => upR s 8 = runsI s) (by decide +kernel) s h0 h1
    · have hs : s < 0 ∨ 256 ≤ s := by omega
      simp [upR, stepR, inB_noset hs, runsI, setOk_neg hs]
  · have hs : s < 0 ∨ 256 ≤ s := by omega
    simp [upR, stepR, inB_noset hs, runsI, setOk_neg hs]

theorem upR_small_all : ∀ n : Nat, n < 256 → ∀ k : Nat, k < 9 → (upR n k).length ≤ 16 ∧ ((upR n k).all fun x => decide (0 ≤ x) && decide (x ≤ 8)) = true ∧ (0 < k → inB n ((k : Int) - 1) = true → 0 < (upR n k).length) := by decide +kernel
theorem upR_small (s : Int) (k : Nat) (hk : k ≤ 8) : (upR s k).length ≤ 16 ∧ (∀ x ∈ upR s k, 0 ≤ x ∧ x ≤ 8) ∧ (0 < k → inB s ((k : Int) - 1) = true → 0 < (upR s k).length) := by
  by_cases hs : 0 ≤ s ∧ s < 256
  · have := all_nat (fun s => ∀ k : Nat, k < 9 → (upR s k).length ≤ 16 ∧ ((upR s k).all fun x => decide (0 ≤ x) && decide (x ≤ 8)) = true ∧ (0 < k → inB s ((k : Int) - 1) = true → 0 < (upR s k).length)) upR_small_all s hs.1 hs.2 k (by omega)
    refine ⟨this.1, ?_, this.2.2⟩
    simpa using this.2.1
  · have hs : s < 0 ∨ 256 ≤ s := by omega
    have e : ∀ k, upR s k = [] := by
      intro k
      induction k with
      | zero => rfl
      | succ k ih => simp [upR, stepR, inB_noset hs, ih]
    rw [e k]
    simp [inB_noset hs]

theorem runsI_len_all : ∀ n : Nat, n < 256 → (runsI n).length ≤ 16 := by decide +kernel
theorem runsI_len (s : Int) : (runsI s).length ≤ 16 := by
  by_cases hs : 0 ≤ s ∧ s < 256
  · exact all_nat (fun s => (runsI s).length ≤ 16) runsI_len_all s hs.1 hs.2
  · have hs : s < 0 ∨ 256 ≤ s := by omega
    simp [runsI, setOk_neg hs]

theorem runsFrom_step (s : Int) (f a : Nat) (h : a < 8) : runsFrom s (f + 1) a = (a : Int) :: (((seekI (lackP s) a : Nat) : Int) - a) :: runsFrom s f (seekI (hasP s) (seekI (lackP s) a)) := by
  rw [runsFrom, if_pos h]

theorem map_two (xs : List Int) (a b : Int) : xs.map (Value.int .i64) ++ [.int .i64 a, .int .i64 b] = (xs ++ [a, b]).map (Value.int .i64) := by simp

def RunsRel (s : Int) (w wr : World) (v : Value) (k f : Nat) (xs : List Int) : Prop :=
  8 - k < f ∧ xs ++ runsFrom s f k = runsI s ∧ (k < 8 → hasP s k = true) ∧ Own wr w.heap.size v xs ∧ Below w.heap.size w wr

theorem RunsRel.len {s : Int} {w wr : World} {v : Value} {k f : Nat} {xs : List Int} (h : RunsRel s w wr v k f xs) : xs.length ≤ 16 := by
  have := runsI_len s
  rw [← h.2.1, List.length_append] at this
  omega

theorem seek_past {s : Int} {k : Nat} (hk : k < 8) (h : hasP s k = true) : k < seekI (lackP s) k := by
  have hl : lackP s k = false := by simpa [lackP, hasP] using h
  rw [seekI_no hk hl]
  have := seekI_bd (lackP s) (k + 1) (by omega)
  omega

theorem RunsRel.step {s : Int} {w wr w1 : World} {v v' : Value} {k f : Nat} {xs : List Int} {o : Obj} (h : RunsRel s w wr v k f xs) (hk : k < 8)
    (hown : w1.ownsRow w.heap.size 2 1 v' (xs.length + 2) (xs.map (Value.int .i64) ++ [.int .i64 k, .int .i64 ((seekI (lackP s) k : Nat) - (k : Int))])) (hg : (wr.alloc o).grownBy w1 v.ownBlock) :
    ∃ f', RunsRel s w w1 v' (seekI (hasP s) (seekI (lackP s) k)) f' (xs ++ [(k : Int), (seekI (lackP s) k : Nat) - (k : Int)]) := by
  obtain ⟨h1, h2, h3, h4, h5⟩ := h
  obtain ⟨f', rfl⟩ : ∃ f', f = f' + 1 := ⟨f - 1, by omega⟩
  have b1 := seekI_bd (lackP s) k (by omega)
  have b2 := seekI_bd (hasP s) (seekI (lackP s) k) b1.2
  have b3 := seek_past hk (h3 hk)
  refine ⟨f', by omega, ?_, fun h8 => seekI_at (hasP s) _ b1.2 h8, ?_, ?_⟩
  · rw [runsFrom_step s f' k hk] at h2
    rw [← h2]; simp
  · unfold Own
    rw [← map_two]
    simpa using hown
  · exact (h5.alloc h5.size o).grown hg (by simp; have := h5.size; omega) (fun g e => (h4.lt g e).1)

set_option maxHeartbeats 1000000 in
theorem runs_any (s : Int) (w : World) :
    Calls Try.prog 25 #[.int .i64 s] w fun e w' => ∃ v, e = .returned v ∧ Own w' w.heap.size v (runsI s) ∧ Below w.heap.size w w' := by
  by_cases hs : 0 ≤ s ∧ s < 256
  · obtain ⟨h0, h1⟩ := hs
    obtain ⟨i0, hi, hz0, hz1, hz2⟩ := info_parts Try.infoI
    have HB := seekI_bd (hasP s) 0 (by omega)
    go_enter Try.func25, Try.ntmps25
    go_wp2_with (first | (go_at_call 36; refine (seek_has s 0 _ h0 h1 (by omega)).mono ?_; rintro e w' ⟨rfl, rfl⟩) | (go_at_call 35; go_in))
    go_loopw [3, 5] (fun v a wr => ∃ (k f : Nat) (xs : List Int), k ≤ 8 ∧ a = .int .i64 k ∧ Hid (RunsRel s w wr v k f xs)) (fun _ a _ => 8 - (intOf a).toNat)
    case atStart =>
      refine ⟨_, 9, [], HB.2, rfl, by omega, by simp [runsI, setOk_pos h0 h1], fun h8 => seekI_at (hasP s) 0 (by omega) h8, ?_, (Below.refl _ _).alloc (Nat.le_refl _) _⟩
      exact World.ownsRow_lit w #[] 0 (Nat.le_refl _) (Nat.zero_le _) rfl
    case round =>
      obtain ⟨k, f, xs, hk, rfl, HR⟩ := hrel
      clear HB
      by_cases hlt : (k : Int) < 8
      · have hb := seekI_bd (lackP s) k hk
        have hown := HR.out.2.2.2.1
        have hlen := HR.out.len
        have hsz := HR.out.2.2.2.2.size
        unfold Own at hown
        go_wp2_with (first
          | (go_at_call 36; refine (seek_lacks s k _ h0 h1 hk).mono ?_; rintro e w' ⟨rfl, rfl⟩)
          | (at_builtin; refine wpList_append_own _ rfl _ _ 30 rfl w.heap.size 2 i0 (.int .i64 0) 1 8 Try.underlying30 hi hz0 hz1 hz2 rfl (by decide) _ _ _ rfl (hown.alloc _) _ 2 2 [.int .i64 k, .int .i64 ((seekI (lackP s) k : Nat) - (k : Int))] rfl rfl ?c1 ?c2 ?c3 ?c4 ?c5 ?_))
        case c1 =>
          intro j u hj
          match j, hj with
          | 0, hj => simp at hj; subst hj; simp [Addr.add]
          | 1, hj => simp at hj; subst hj; simp [Addr.add]
        case c2 => intro u hu; simp at hu; rcases hu with rfl | rfl <;> rfl
        case c3 => unfold maxLen; omega
        case c4 => omega
        case c5 => simp; omega
        · intro v' w1 hown' hgrow _
          obtain ⟨f', R⟩ := HR.out.step (by omega) hown' hgrow
          have HR' : Hid (RunsRel s w w1 v' (seekI (hasP s) (seekI (lackP s) k)) f' (xs ++ [(k : Int), (seekI (lackP s) k : Nat) - (k : Int)])) := R
          have HP : Hid (k < seekI (lackP s) k) := seek_past (by omega) (HR.out.2.2.1 (by omega))
          clear hown' hgrow hown R HR hsz hlen
          go_wp2_with (go_at_call 36; refine (seek_has s (seekI (lackP s) k) _ h0 h1 hb.2).mono ?_; rintro e w' ⟨rfl, rfl⟩)
          have hb2 := seekI_bd (hasP s) (seekI (lackP s) k) hb.2
          go_roundw
          case rel => exact ⟨_, f', _, hb2.2, rfl, HR'⟩
          case measure => have := HP.out; simp [intOf]; omega
      · go_wp2
        obtain ⟨r1, r2, _, r4, r5⟩ := HR.out
        have hz : runsFrom s f k = [] := by
          cases f with
          | zero => rfl
          | succ f => rw [runsFrom, if_neg (by omega)]
        rw [hz, List.append_nil] at r2
        go_ret
        exact ⟨_, rfl, r2 ▸ r4, r5⟩
  · have hs : s < 0 ∨ 256 ≤ s := by omega
    have e : runsI s = [] := by simp [runsI, setOk_neg hs]
    rw [e]
    clear e
    have hd : ¬ 0 ≤ s ∨ (0 ≤ s ∧ ¬ s < 256) := by omega
    clear hs
    rcases hd with h0 | ⟨h0, h1⟩
    all_goals
      go_enter Try.func25, Try.ntmps25
      go_wp2
      go_ret
      exact ⟨_, rfl, World.ownsRow_lit w #[] 0 (Nat.le_refl _) (Nat.zero_le _) rfl, (Below.refl _ _).alloc (Nat.le_refl _) _⟩

theorem lastUp_set : ∀ xs : List Int, lastUp xs = xs.set (xs.length - 1) (xs.getD (xs.length - 1) 0 + 1)
  | [] => rfl
  | [x] => rfl
  | x :: y :: r => by
    rw [lastUp, lastUp_set (y :: r)]
    simp [List.getD]

theorem upR_no {s : Int} {k : Nat} (h : inB s k = false) : upR s (k + 1) = upR s k := by simp [upR, stepR, h]
theorem upR_new {s : Int} {k : Nat} (h : inB s k = true) (h2 : k = 0 ∨ inB s ((k : Int) - 1) = false) : upR s (k + 1) = upR s k ++ [(k : Int), 1] := by
  simp only [upR, stepR, h, if_true]
  rw [if_neg]
  rcases h2 with h2 | h2
  · omega
  · simp [h2]
theorem upR_up {s : Int} {k : Nat} (h : inB s k = true) (h0 : 0 < k) (h2 : inB s ((k : Int) - 1) = true) : upR s (k + 1) = lastUp (upR s k) := by
  simp [upR, stepR, h, h0, h2]

def UpRel (s : Int) (w wr : World) (v : Value) (k : Nat) : Prop := Own wr w.heap.size v (upR s k) ∧ Below w.heap.size w wr

theorem UpRel.new {s : Int} {w wr w1 : World} {v v' : Value} {k : Nat} {o : Obj} (h : UpRel s w wr v k) (e : upR s (k + 1) = upR s k ++ [(k : Int), 1])
    (hown : w1.ownsRow w.heap.size 2 1 v' ((upR s k).length + 2) ((upR s k).map (Value.int .i64) ++ [.int .i64 k, .int .i64 1])) (hg : (wr.alloc o).grownBy w1 v.ownBlock) :
    UpRel s w w1 v' (k + 1) := by
  obtain ⟨h4, h5⟩ := h
  refine ⟨?_, (h5.alloc h5.size o).grown hg (by simp; have := h5.size; omega) (fun g e => (h4.lt g e).1)⟩
  unfold Own
  rw [e, ← map_two]
  simpa using hown

set_option maxHeartbeats 1000000 in
theorem sruns_any (s : Int) (w : World) :
    Calls Try.prog 27 #[.int .i64 s] w fun e w' => ∃ v, e = .returned v ∧ Own w' w.heap.size v (runsI s) ∧ Below w.heap.size w w' := by
  obtain ⟨i0, hi, hz0, hz1, hz2⟩ := info_parts Try.infoI
  go_enter Try.func27, Try.ntmps27
  go_wp2
  go_loopw [3, 4] (fun v a wr => ∃ k : Nat, k ≤ 8 ∧ a = .int .i64 k ∧ Hid (UpRel s w wr v k)) (fun _ a _ => 8 - (intOf a).toNat)
  case atStart =>
    exact ⟨0, by omega, rfl, World.ownsRow_lit w #[] 0 (Nat.le_refl _) (Nat.zero_le _) rfl, (Below.refl _ _).alloc (Nat.le_refl _) _⟩
  case round =>
    obtain ⟨k, hk, rfl, HR⟩ := hrel
    by_cases hlt : (k : Int) < 8
    · cases hb : inB s k with
      | false =>
        go_wp2_with (go_at_call 20; refine (sin_any s k _).mono ?_; rintro e w' ⟨rfl, rfl⟩)
        go_roundw
        case rel => exact ⟨k + 1, by omega, by go_num, by unfold UpRel; rw [upR_no hb]; exact HR.out⟩
        case measure => simp [intOf]; omega
      | true =>
        cases hp1 : decide (0 < (k : Int)) with
        | false =>
          have hp0 : ¬ 0 < (k : Int) := by simpa using hp1
          clear hp1
          · have H : k = 0 ∨ inB s ((k : Int) - 1) = false := by omega
            have hown := HR.out.1
            have hlen := (upR_small s k hk).1
            have hsz := HR.out.2.size
            unfold Own at hown
            go_wp2_with (first
              | (go_at_call 20; refine (sin_any s _ _).mono ?_; rintro e w' ⟨rfl, rfl⟩)
              | (at_builtin; refine wpList_append_own _ rfl _ _ 30 rfl w.heap.size 2 i0 (.int .i64 0) 1 8 Try.underlying30 hi hz0 hz1 hz2 rfl (by decide) _ _ _ rfl (hown.alloc _) _ 2 2 [.int .i64 k, .int .i64 1] rfl rfl ?c1 ?c2 ?c3 ?c4 ?c5 ?_))
            case c1 =>
              intro j u hj
              match j, hj with
              | 0, hj => simp at hj; subst hj; simp [Addr.add]
              | 1, hj => simp at hj; subst hj; simp [Addr.add]
            case c2 => intro u hu; simp at hu; rcases hu with rfl | rfl <;> rfl
            case c3 => unfold maxLen; omega
            case c4 => omega
            case c5 => simp; omega
            · intro v' w1 hown' hgrow _
              have R : Hid (UpRel s w w1 v' (k + 1)) := HR.out.new (upR_new hb H) hown' hgrow
              clear hown' hgrow hown HR hsz hlen
              go_wp2
              go_roundw
              case rel => exact ⟨k + 1, by omega, by go_num, R⟩
              case measure => simp [intOf]; omega
        | true =>
          have hp0 : 0 < (k : Int) := by simpa using hp1
          clear hp1
          cases hq : inB s ((k : Int) - 1) with
          | false =>
            have H : k = 0 ∨ inB s ((k : Int) - 1) = false := .inr hq
            have hown := HR.out.1
            have hlen := (upR_small s k hk).1
            have hsz := HR.out.2.size
            unfold Own at hown
            go_wp2_with (first
              | (go_at_call 20; refine (sin_any s _ _).mono ?_; rintro e w' ⟨rfl, rfl⟩)
              | (at_builtin; refine wpList_append_own _ rfl _ _ 30 rfl w.heap.size 2 i0 (.int .i64 0) 1 8 Try.underlying30 hi hz0 hz1 hz2 rfl (by decide) _ _ _ rfl (hown.alloc _) _ 2 2 [.int .i64 k, .int .i64 1] rfl rfl ?c1 ?c2 ?c3 ?c4 ?c5 ?_))
            case c1 =>
              intro j u hj
              match j, hj with
              | 0, hj => simp at hj; subst hj; simp [Addr.add]
              | 1, hj => simp at hj; subst hj; simp [Addr.add]
            case c2 => intro u hu; simp at hu; rcases hu with rfl | rfl <;> rfl
            case c3 => unfold maxLen; omega
            case c4 => omega
            case c5 => simp; omega
            · intro v' w1 hown' hgrow _
              have R : Hid (UpRel s w w1 v' (k + 1)) := HR.out.new (upR_new hb H) hown' hgrow
              clear hown' hgrow hown HR hsz hlen
              go_wp2
              go_roundw
              case rel => exact ⟨k + 1, by omega, by go_num, R⟩
              case measure => simp [intOf]; omega
          | true =>
            obtain ⟨hlen, hel, hne⟩ := upR_small s k hk
            have hn := hne (by omega) hq
            clear hne
            have hown := HR.out.1
            obtain ⟨g, cap, rfl, hbg, hgl⟩ := World.ownsRow.form hown hn
            obtain ⟨n, hnn⟩ : ∃ n, n = (upR s k).length := ⟨_, rfl⟩
            have hc := World.ownsRow.cellAt hown (n - 1) (by omega)
            have hf := World.ownsRow.frozenAt hown (n - 1)
            have hx : (upR s k)[n - 1]? = some ((upR s k).getD (n - 1) 0) := by simp [List.getD, List.getElem?_eq_getElem (show n - 1 < (upR s k).length by omega)]
            have hxb := hel ((upR s k).getD (n - 1) 0) (List.mem_of_getElem? hx)
            rw [List.getElem?_map, hx] at hc
            have hst := World.ownsRow.stored hown (n - 1) (.int .i64 ((upR s k).getD (n - 1) 0 + 1))
            have R : Hid (UpRel s w (wr.setCell ⟨g, n - 1, none⟩ (.int .i64 ((upR s k).getD (n - 1) 0 + 1))) (.slice (some ⟨g, 0, none⟩) (upR s k).length cap) (k + 1)) := by
              refine ⟨?_, HR.out.2.setCell hbg _⟩
              unfold Own
              rw [upR_up hb (by omega) hq, lastUp_set, List.length_set, List.map_set, ← hnn]
              rw [← hnn] at hst
              exact hst.1
            obtain ⟨x, hxx⟩ : ∃ x, x = (upR s k).getD (n - 1) 0 := ⟨_, rfl⟩
            rw [← hxx] at hc hxb R
            rw [← hnn] at R hn hlen ⊢
            have hn1 : ((n : Int) - 1) = ((n - 1 : Nat) : Int) := by omega
            have HX : Hid (x = (upR s k).getD (n - 1) 0 ∧ n = (upR s k).length ∧ ((n : Int) - 1) = ((n - 1 : Nat) : Int)) := ⟨hxx, hnn, hn1⟩
            clear hst hown HR hel hx hxx hnn hn1
            simp at hc
            go_wp2_with (go_at_call 20; refine (sin_any s _ _).mono ?_; rintro e w' ⟨rfl, rfl⟩)
            go_roundw
            case rel => exact ⟨k + 1, by omega, by go_num, R⟩
            case measure => simp [intOf]; omega
    · go_wp2
      obtain ⟨r1, r2⟩ := HR.out
      have hk8 : k = 8 := by omega
      rw [hk8, runs_eq] at r1
      go_ret
      exact ⟨_, rfl, r1, r2⟩
end Go.Proofs.Ytfdmagfjnppbgaa
