/- What the laws on actions say, of plain numbers, on: Reserve, Release, Preempt. -/
import Derived.Test.YtpdggofaobmnlaaGreatDoorM33
import Derived.Test.YtpdggofaobmnlaaGreatDoorM1
import Derived.Test.YtpdggofaobmnlaaGreatDoorRows
import Derived.Test.YtpdggofaobmnlaaGreatDoorM5
import Derived.WalkKit
import Derived.ProofKit
import Derived.OpenShut
import Derived.Test.YtpdggofaobmnlaaGreatDoorM2
namespace Go.Proofs.YtpdggofaobmnlaaGreatDoor
open Go.RowKit

theorem ki_ne0 {k : Int} (h : kiI k = true) : k ≠ 0 := by intro e; subst e; exact absurd h (by decide)
theorem take_ok {h : Hd} (ok : h.ok = true) {i k : Int} (hi : 0 ≤ i ∧ i ≤ 3) (hr : h.ks.getD i.toNat 0 ≠ 0) (hk : kiI k = true) : (h.take i k).ok = true := by
  obtain ⟨hl, ht, hks, hm⟩ := ok_iff.1 ok
  rw [ok_iff]
  refine ⟨hl, ht, hks, ?_⟩
  rw [mid_iff]
  unfold Hd.take
  have h0 := ki_ne0 hk
  cases ha : allI k
  · refine .inr (.inr ⟨h0, rfl, hk, ?_, ?_⟩)
    · simpa using hi
    · simpa using hr
  · refine .inr (.inl ⟨h0, rfl, by simp, any_iff.2 ⟨i.toNat, by simp; omega, hr⟩⟩)
theorem take_hol {h : Hd} {i k : Int} (ok : (h.take i k).ok = true) (hi : inI i 0 3 = true) (hr : regI h.ks i = true) (hk : kiI k = true) : (h.take i k).Hol i = true := by
  unfold Hd.Hol Hd.holds
  rw [ok, hi]
  have h0 := ki_ne0 hk
  cases ha : allI k
  · simp [Hd.take, h0, ha]
  · simp [Hd.take, h0, ha, hr]
theorem reg_of {h : Hd} {i : Int} : regI h.ks i = true ↔ h.ks.getD i.toNat 0 ≠ 0 := by simp [regI]
theorem reserve_cases (h : Hd) (i k : Int) : h.reserve i k = (Hd.zero, 2) ∨
    (h.reserve i k = (h, 1) ∧ (h.Reg i = false ∨ (h.kd ≠ 0 ∧ (h.kd ≠ k ∨ h.Hol i = false)))) ∨
    (∃ x, h.reserve i k = (x, 0) ∧ x.Hol i = true ∧ x.kd = k ∧ (h.kd = 0 ∨ x = h) ∧ x.reserve i k = (x, 0) ∧ x.ks.length = 4) := by
  unfold Hd.reserve
  by_cases c : (h.ok && inI i 0 3 && kiI k) = true
  · rw [if_pos c]
    simp only [Bool.and_eq_true] at c
    obtain ⟨⟨ok, hin⟩, hk⟩ := c
    have hi := (inI_iff _ _ _).1 hin
    have hk0 := ki_ne0 hk
    have hl := (ok_iff.1 ok).1
    cases hr : regI h.ks i
    · refine .inr (.inl ⟨?_, .inl ?_⟩)
      · simp [Hd.resd, hr, told]
      · simp [Hd.Reg, hr]
    · by_cases h0 : h.kd = 0
      · have e : h.resd i k = (h.take i k, true) := by simp [Hd.resd, hr, h0]
        have tok := take_ok ok hi (reg_of.1 hr) hk
        refine .inr (.inr ⟨h.take i k, by rw [e]; rfl, take_hol tok hin hr hk, rfl, .inl h0, ?_, hl⟩)
        have e2 : (h.take i k).resd i k = (h.take i k, true) := by
          unfold Hd.resd
          rw [if_neg (by rw [show (h.take i k).ks = h.ks from rfl, hr]; decide), if_neg (show (h.take i k).kd ≠ 0 from hk0)]
          cases ha : allI k <;> simp [Hd.take, ha]
        rw [tok, hin, hk, e2]; rfl
      · have e : h.resd i k = (h, decide (h.kd = k) && (allI k || decide (h.ho = i))) := by simp [Hd.resd, hr, h0]
        by_cases hh : (decide (h.kd = k) && (allI k || decide (h.ho = i))) = true
        · rw [hh] at e
          simp only [Bool.and_eq_true, Bool.or_eq_true, decide_eq_true_eq] at hh
          refine .inr (.inr ⟨h, by rw [e]; rfl, ?_, hh.1, .inr rfl, by rw [ok, hin, hk, e]; rfl, hl⟩)
          unfold Hd.Hol Hd.holds
          rw [ok, hin]
          rcases hh with ⟨hkk, ha | ho⟩
          · simp [hkk, ha, hr, hk0]
          · simp [h0, ho]
        · have hh' : (decide (h.kd = k) && (allI k || decide (h.ho = i))) = false := by simpa using hh
          rw [hh'] at e
          refine .inr (.inl ⟨by rw [e]; rfl, .inr ⟨h0, ?_⟩⟩)
          by_cases hkk : h.kd = k
          · right
            subst hkk
            simp at hh'
            simp [Hd.Hol, Hd.holds, hh'.1, hh'.2]
          · exact .inl hkk
  · rw [if_neg c]; exact .inl rfl
theorem release_cases (a : Hd) (b : Int) : (∃ y, a.release b = (y, 0) ∧ y.Hol b = false ∧ y.ks = a.ks ∧ y.tu = a.tu ∧ (a.Hol b = true ∨ y = a)) ∨ a.release b = (a, 1) ∨ a.release b = (Hd.zero, 2) := by
  unfold Hd.release
  by_cases c : (a.ok && inI b 0 3) = true
  · rw [if_pos c]
    simp only [Bool.and_eq_true] at c
    unfold Hd.reld
    cases hr : regI a.ks b
    · rw [if_pos rfl]; exact .inr (.inl rfl)
    · rw [if_neg (by decide)]
      cases hh : a.holds b
      · rw [if_neg (by decide)]
        exact .inl ⟨a, rfl, by simp [Hd.Hol, hh], rfl, rfl, .inr rfl⟩
      · rw [if_pos rfl]
        exact .inl ⟨a.free, rfl, Hd.hol_none rfl b, rfl, rfl, .inl (by simp [Hd.Hol, c.1, c.2, hh])⟩
  · rw [if_neg c]; exact .inr (.inr rfl)
theorem strike_get (ks : List Int) (i : Nat) (key : Int) (n m : Nat) (hn : n ≤ ks.length) (hm : m < n) : (strike ks i key n).getD m 0 = if m ≠ i ∧ ks.getD m 0 = key then 0 else ks.getD m 0 := by
  induction n with
  | zero => omega
  | succ n ih =>
    by_cases e : m = n
    · subst e
      unfold strike
      split
      · rw [getD_setK (by rw [strike_len]; omega), if_pos rfl]
      · exact strike_at _ _ _ _ _ (Nat.le_refl _)
    · have := ih (by omega) (by omega)
      unfold strike
      split
      · rw [getD_setK (by rw [strike_len]; omega), if_neg e, this]
      · exact this
theorem preempt_cases (h : Hd) (i key k : Int) : h.preempt i key k = (Hd.zero, 2) ∨ h.preempt i key k = (h, 1) ∨
    (∃ x, h.preempt i key k = (x, 0) ∧ x.ks.length = 4 ∧ h.ks.length = 4 ∧ (∀ m, m < 4 → x.ks.getD m 0 = if (m : Int) ≠ i ∧ h.ks.getD m 0 = key then 0 else h.ks.getD m 0) ∧
      (h.kd ≠ 0 → 0 ≤ h.ho → h.ho ≤ 3 ∧ (h.ks.getD h.ho.toNat 0 = key → x.Hol i = true ∧ x.kd = k)) ∧ (h.kd = 0 → x.kd = 0) ∧ (h.kd ≠ 0 → x.kd ≠ 0) ∧ x.ok = true ∧ x.Reg i = true) := by
  unfold Hd.preempt
  by_cases c : (h.ok && inI i 0 3 && inI key 1 9999 && kiI k) = true
  · rw [if_pos c]
    simp only [Bool.and_eq_true] at c
    obtain ⟨⟨⟨ok, hin⟩, hkey⟩, hk⟩ := c
    have hi := (inI_iff _ _ _).1 hin
    have hky := (inI_iff _ _ _).1 hkey
    have hk0 := ki_ne0 hk
    obtain ⟨hl, ht, hks, hm⟩ := ok_iff.1 ok
    by_cases hrf : (regI h.ks i && has h.ks key 4) = false
    · refine .inr (.inl ?_)
      unfold Hd.pred
      rw [if_pos hrf]; rfl
    · have hr : regI h.ks i = true := by
        cases hx : regI h.ks i
        · rw [hx] at hrf; exact absurd rfl hrf
        · rfl
      have hri := reg_of.1 hr
      obtain ⟨h4, hh4⟩ : ∃ h4 : Hd, h4 = Hd.turn ⟨strike h.ks i.toNat key 4, h.kd, h.ho, h.tu⟩ := ⟨_, rfl⟩
      have h4ks : h4.ks = strike h.ks i.toNat key 4 := by rw [hh4]; rfl
      have h4kd : h4.kd = h.kd := by rw [hh4]; rfl
      have h4ho : h4.ho = h.ho := by rw [hh4]; rfl
      have h4tu : h4.tu = turnI h.tu := by rw [hh4]; rfl
      have hg : ∀ m, m < 4 → h4.ks.getD m 0 = if m ≠ i.toNat ∧ h.ks.getD m 0 = key then 0 else h.ks.getD m 0 := fun m hm => by
        rw [h4ks]; exact strike_get _ _ _ _ _ (by omega) hm
      have hl4 : h4.ks.length = 4 := by rw [h4ks, strike_len]; exact hl
      have hr4 : h4.ks.getD i.toNat 0 ≠ 0 := by
        rw [hg i.toNat (by omega), if_neg (fun e => e.1 rfl)]; exact hri
      have hks4 : keysI h4.ks = true := keys_iff.2 fun j hj => by
        rw [hg j (by omega)]
        split
        · omega
        · exact keys_iff.1 hks j (by omega)
      have htu4 := turnI_in h.tu ht.1 ht.2
      have hgi : ∀ m, m < 4 → h4.ks.getD m 0 = if (m : Int) ≠ i ∧ h.ks.getD m 0 = key then 0 else h.ks.getD m 0 := fun m hm => by
        rw [hg m hm]
        have : m ≠ i.toNat ↔ (m : Int) ≠ i := by omega
        simp only [this]
      have hany4 : anyI h4.ks = true := any_iff.2 ⟨i.toNat, by omega, hr4⟩
      have ho : h.kd ≠ 0 → 0 ≤ h.ho → allI h.kd = false ∧ h.ho ≤ 3 := by
        intro e1 e2
        rcases mid_iff.1 hm with m | m | m
        · exact absurd m.1 e1
        · omega
        · exact ⟨m.2.1, m.2.2.2.1.2⟩
      by_cases ht' : (h.alone key || (allI h.kd && !more h.ks i.toNat key 4)) = true
      · have e : h.pred i key k = (h4.take i k, true) := by
          unfold Hd.pred
          rw [if_neg hrf, if_pos ht', hh4]
        rw [e]
        have hkd : h.kd ≠ 0 := by
          intro e0
          rw [Hd.alone, e0] at ht'
          exact absurd ht' (by simp [show allI 0 = false from rfl])
        have tok : (h4.take i k).ok = true := by
          rw [ok_iff]
          refine ⟨hl4, by rw [show (h4.take i k).tu = h4.tu from rfl, h4tu]; exact htu4, hks4, ?_⟩
          rw [mid_iff]
          unfold Hd.take
          cases ha : allI k
          · exact .inr (.inr ⟨hk0, rfl, hk, by simpa using hi, by simpa using hr4⟩)
          · exact .inr (.inl ⟨hk0, rfl, by simp, hany4⟩)
        have hr4' : regI h4.ks i = true := (reg_of (h := h4)).2 hr4
        refine .inr (.inr ⟨h4.take i k, rfl, hl4, hl, hgi, fun e1 e2 => ⟨(ho e1 e2).2, fun _ => ⟨take_hol tok hin hr4' hk, rfl⟩⟩, fun e0 => absurd e0 hkd, fun _ => hk0, tok, ?_⟩)
        unfold Hd.Reg
        rw [tok, hin]
        exact hr4'
      · have e : h.pred i key k = (h4, true) := by
          unfold Hd.pred
          rw [if_neg hrf, if_neg ht', hh4]
        rw [e]
        have hal : h.alone key = false := by
          cases hx : h.alone key
          · rfl
          · rw [hx] at ht'; exact absurd rfl ht'
        have hok4 : h4.ok = true := by
          rw [ok_iff]
          refine ⟨hl4, by rw [h4tu]; exact htu4, hks4, ?_⟩
          rw [mid_iff, h4kd, h4ho]
          rcases mid_iff.1 hm with m | m | m
          · exact .inl m
          · exact .inr (.inl ⟨m.1, m.2.1, m.2.2.1, hany4⟩)
          · refine .inr (.inr ⟨m.1, m.2.1, m.2.2.1, m.2.2.2.1, ?_⟩)
            rw [hg h.ho.toNat (by have := m.2.2.2.1; omega)]
            have : h.ks.getD h.ho.toNat 0 ≠ key := by
              intro e1
              rw [Hd.alone, e1] at hal
              simp [m.1, m.2.1] at hal
            rw [if_neg (fun e => this e.2)]
            exact m.2.2.2.2
        refine .inr (.inr ⟨h4, rfl, hl4, hl, hgi, fun e1 e2 => ⟨(ho e1 e2).2, fun e3 => ?_⟩, fun e0 => by rw [h4kd]; exact e0, fun e0 => by rw [h4kd]; exact e0, hok4, ?_⟩)
        · rw [Hd.alone, e3, (ho e1 e2).1] at hal
          simp [e1] at hal
        · unfold Hd.Reg
          rw [hok4, hin]
          exact (reg_of (h := h4)).2 hr4
  · rw [if_neg c]; exact .inl rfl
end Go.Proofs.YtpdggofaobmnlaaGreatDoor
/- likeInts answers whether two lists are the same. -/
namespace Go.Proofs.YtpdggofaobmnlaaGreatDoor
open Go.ChangeShapes Go.WideShapes Go.ChangeAt Go.RowKit

set_option maxRecDepth 20000 in
set_option maxHeartbeats 400000 in
theorem like_any (va vb : Value) (xs ys : List Int) (w : World) (ha : Reads w va xs) (hb : Reads w vb ys) (hbig : xs.length ≤ 1099511627776) :
    Calls Tryz.prog 50 #[va, vb] w fun e w' => e = .returned (.bool (decide (xs = ys))) ∧ ∃ n, w' = w.drewN n := by
  obtain ⟨ao, ca, rfl, hla, ⟨hma, -⟩, hca⟩ := ha
  obtain ⟨bo, cb, rfl, hlb, ⟨hmb, -⟩, hcb⟩ := hb
  by_cases hlen : xs.length = ys.length
  · obtain ⟨n, hn⟩ : ∃ n, n = xs.length := ⟨_, rfl⟩
    rw [← hlen] at hlb hcb ⊢
    rw [← hn] at hla hlb hca hcb hbig ⊢
    have HN : Hid (n = xs.length ∧ n = ys.length) := ⟨hn, hn.trans hlen⟩
    clear hn hlen hma hmb
    have hcell : ∀ j, j < n → ∃ b off b' off', ao = some ⟨b, off, none⟩ ∧ bo = some ⟨b', off', none⟩ ∧ w.cell? ⟨b, off + j, none⟩ = some (.int .i64 (xs.getD j 0)) ∧ w.cell? ⟨b', off' + j, none⟩ = some (.int .i64 (ys.getD j 0)) := by
      intro j hj
      rcases hca with e | ⟨b, off, e, h4⟩
      · have := HN.out.1; rw [e] at this; simp at this; omega
      · rcases hcb with e' | ⟨b', off', e', h4'⟩
        · have := HN.out.2; rw [e'] at this; simp at this; omega
        · exact ⟨b, off, b', off', e, e', h4 j hj, h4' j hj⟩
    clear hca hcb
    go_enter Tryz.func50, Tryz.ntmps50
    go_wp2
    go_loopw [5] (fun i wr => ∃ j q : Nat, j ≤ n ∧ i = .int .i64 j ∧ Hid (xs.take j = ys.take j) ∧ wr = w.drewN q) (fun i _ => n - (intOf i).toNat)
    case atStart => exact ⟨0, 0, Nat.zero_le _, rfl, by simp [Hid], rfl⟩
    case round =>
      obtain ⟨j, q, hj, rfl, ht, rfl⟩ := hrel
      by_cases hlt : (j : Int) < (n : Int)
      · obtain ⟨b, off, b', off', rfl, rfl, hc1, hc2⟩ := hcell j (by omega)
        clear hcell
        obtain ⟨x, hx⟩ : ∃ x, x = xs.getD j 0 := ⟨_, rfl⟩
        obtain ⟨y, hy⟩ : ∃ y, y = ys.getD j 0 := ⟨_, rfl⟩
        rw [← hx] at hc1
        rw [← hy] at hc2
        have HX : Hid (x = xs.getD j 0 ∧ y = ys.getD j 0) := ⟨hx, hy⟩
        clear hx hy
        by_cases hxy : (x != y) = true
        · go_wp2
          go_quiet (fail)
          go_wp2
          go_ret
          exact ⟨ret_bool (by
            have h1 : x ≠ y := by simpa using hxy
            have h2 : xs ≠ ys := ne_of_getD (j := j) (by rw [← HX.out.1, ← HX.out.2]; exact h1)
            simp [h2]), ⟨_, World.drewN_drewN ..⟩⟩
        · go_wp2
          go_quiet (fail)
          go_wp2
          go_roundw
          case rel =>
            have h1 : x = y := by simpa using hxy
            exact ⟨j + 1, _, by omega, by go_num, take_step ht (by have := HN.out.1; omega) (by have := HN.out.2; omega) (by rw [← HX.out.1, ← HX.out.2]; exact h1), rfl⟩
          case measure => simp [intOf]; omega
      · go_wp2
        go_ret
        exact ⟨ret_bool (by
          have h1 : xs = ys := by
            have h2 := ht.out
            rw [List.take_of_length_le (by have := HN.out.1; omega), List.take_of_length_le (by have := HN.out.2; omega)] at h2
            exact h2
          simp [h1]), ⟨_, rfl⟩⟩
  · have hne : ((xs.length : Int) != (ys.length : Int)) = true := by simp; omega
    have he : decide (xs = ys) = false := by
      have : xs ≠ ys := fun h => hlen (by rw [h])
      simp [this]
    rw [he]
    clear he hlen hca hcb
    go_enter Tryz.func50, Tryz.ntmps50
    go_wp2
    go_ret
    exact ⟨rfl, 0, rfl⟩

end Go.Proofs.YtpdggofaobmnlaaGreatDoor
/- seek tells the least block from there on that is as wanted; First, the program's and the model's, is the least that is in the set, or -1. -/
namespace Go.Proofs.YtpdggofaobmnlaaGreatDoor
open Go.ChangeShapes Go.WideShapes Go.ChangeAt Go.RowKit

def seekF (p : Nat → Bool) : Nat → Nat → Nat
  | 0, k => k
  | f + 1, k => if p k then k else seekF p f (k + 1)
def seekI (p : Nat → Bool) (k : Nat) : Nat := seekF p (8 - k) k
theorem seekI_yes {p : Nat → Bool} {k : Nat} (h : k < 8) (hp : p k = true) : seekI p k = k := by
  unfold seekI
  obtain ⟨f, hf⟩ : ∃ f, 8 - k = f + 1 := ⟨7 - k, by omega⟩
  rw [hf]; simp [seekF, hp]
theorem seekI_no {p : Nat → Bool} {k : Nat} (h : k < 8) (hp : p k = false) : seekI p k = seekI p (k + 1) := by
  unfold seekI
  obtain ⟨f, hf⟩ : ∃ f, 8 - k = f + 1 := ⟨7 - k, by omega⟩
  rw [hf]; simp [seekF, hp]
  rw [show 7 - k = f by omega]
theorem seekI_end {p : Nat → Bool} {k : Nat} (h : 8 ≤ k) : seekI p k = k := by
  unfold seekI
  rw [show 8 - k = 0 by omega]; rfl
theorem seekI_bd (p : Nat → Bool) (k : Nat) (h : k ≤ 8) : k ≤ seekI p k ∧ seekI p k ≤ 8 := by
  obtain ⟨m, hm⟩ : ∃ m, m = 8 - k := ⟨_, rfl⟩
  induction m generalizing k with
  | zero =>
    obtain rfl : k = 8 := by omega
    rw [seekI_end (Nat.le_refl _)]; omega
  | succ m ih =>
    by_cases hp : p k = true
    · rw [seekI_yes (by omega) hp]; omega
    · have := ih (k + 1) (by omega) (by omega)
      rw [seekI_no (by omega) (by simpa using hp)]; omega
theorem seekI_at (p : Nat → Bool) (k : Nat) (h : k ≤ 8) (h8 : seekI p k < 8) : p (seekI p k) = true := by
  obtain ⟨m, hm⟩ : ∃ m, m = 8 - k := ⟨_, rfl⟩
  induction m generalizing k with
  | zero =>
    obtain rfl : k = 8 := by omega
    rw [seekI_end (Nat.le_refl _)] at h8; omega
  | succ m ih =>
    by_cases hp : p k = true
    · rw [seekI_yes (by omega) hp]; exact hp
    · have hn := seekI_no (p := p) (k := k) (by omega) (by simpa using hp)
      rw [hn] at h8 ⊢
      exact ih (k + 1) (by omega) h8 (by omega)
theorem seekI_before (p : Nat → Bool) (k : Nat) (h : k ≤ 8) (j : Nat) (h1 : k ≤ j) (h2 : j < seekI p k) : p j = false := by
  obtain ⟨m, hm⟩ : ∃ m, m = 8 - k := ⟨_, rfl⟩
  induction m generalizing k with
  | zero =>
    obtain rfl : k = 8 := by omega
    rw [seekI_end (Nat.le_refl _)] at h2; omega
  | succ m ih =>
    by_cases hp : p k = true
    · rw [seekI_yes (by omega) hp] at h2; omega
    · have hn := seekI_no (p := p) (k := k) (by omega) (by simpa using hp)
      rw [hn] at h2
      by_cases ej : j = k
      · subst ej; simpa using hp
      · exact ih (k + 1) (by omega) (by omega) h2 (by omega)
theorem seekI_none (p : Nat → Bool) (k : Nat) (h : k ≤ 8) (hp : ∀ j, p j = false) : seekI p k = 8 := by
  have b := seekI_bd p k h
  by_cases e : seekI p k < 8
  · have := seekI_at p k h e; rw [hp] at this; cases this
  · omega

def hasP (s : Int) : Nat → Bool := fun j => inB s j
def lackP (s : Int) : Nat → Bool := fun j => !inB s j
def firstI (s : Int) : Int := if seekI (hasP s) 0 = 8 then -1 else seekI (hasP s) 0

theorem firstI_noset {s : Int} (h : s < 0 ∨ 256 ≤ s) : firstI s = -1 := by
  unfold firstI
  rw [if_pos (seekI_none _ _ (by omega) (fun j => by simp [hasP, inB_noset h]))]
end Go.Proofs.YtpdggofaobmnlaaGreatDoor
/- What the law on sets asks, of plain numbers: one that is put in or taken out changes no other, and the first is the least. -/
namespace Go.Proofs.YtpdggofaobmnlaaGreatDoor
open Go.RowKit

theorem with_all : ∀ n : Nat, n < 256 → ∀ i : Nat, i < 8 → (withI n i).toNat < 256 ∧ 0 ≤ withI n i ∧ ∀ k : Nat, k < 8 → inN (withI n i).toNat k = (inN n k || k == i) := by decide +kernel
theorem without_all : ∀ n : Nat, n < 256 → ∀ i : Nat, i < 8 → (withoutI n i).toNat < 256 ∧ 0 ≤ withoutI n i ∧ ∀ k : Nat, k < 8 → inN (withoutI n i).toNat k = (inN n k && k != i) := by decide +kernel
theorem full_all : ∀ n : Nat, n < 9 → (fullI n).toNat < 256 ∧ 0 ≤ fullI n ∧ ∀ k : Nat, k < 8 → inN (fullI n).toNat k = decide (k < n) := by decide +kernel
theorem zero_all : ∀ n : Nat, n < 256 → (∀ k : Nat, k < 8 → inN n k = false) → n = 0 := by decide +kernel

theorem inB_big {s k : Int} (h : inB s k = true) : 0 ≤ s ∧ s < 256 ∧ 0 ≤ k ∧ k < 8 := by
  simp [inB, setOk, itemOk] at h
  omega

theorem withI_ok {s i : Int} (h : 0 ≤ withI s i) : 0 ≤ s ∧ s < 256 := by
  by_cases hs : 0 ≤ s ∧ s < 256
  · exact hs
  · rw [withI_noset (by omega)] at h; omega

theorem with_nonneg {s i : Int} (h0 : 0 ≤ s) (h1 : s < 256) : 0 ≤ withI s i := by
  by_cases hi : 0 ≤ i ∧ i < 8
  · obtain ⟨n, rfl⟩ := nat_of h0
    obtain ⟨j, rfl⟩ := nat_of hi.1
    exact (with_all n (by omega) j (by omega)).2.1
  · rw [withI_noitem h0 h1 (by omega)]; exact h0

theorem with_in {s i : Int} (h0 : 0 ≤ s) (h1 : s < 256) (k : Int) : inB (withI s i) k = (inB s k || (k == i && decide (0 ≤ i) && decide (i < 8))) := by
  by_cases hi : 0 ≤ i ∧ i < 8
  · obtain ⟨n, rfl⟩ := nat_of h0
    obtain ⟨j, rfl⟩ := nat_of hi.1
    have a := with_all n (by omega) j (by omega)
    by_cases hk : 0 ≤ k ∧ k < 8
    · obtain ⟨m, rfl⟩ := nat_of hk.1
      rw [inB_pos a.2.1 (by omega) hk.1 hk.2, inB_pos h0 h1 hk.1 hk.2]
      have := a.2.2 m (by omega)
      simp only [Int.toNat_natCast] at this ⊢
      rw [this]
      have e : ((m : Int) == (j : Int)) = (m == j) := by
        rw [Bool.eq_iff_iff]; simp; omega
      rw [e]
      simp [hi.2]
    · rw [inB_noitem (by omega), inB_noitem (by omega)]
      have : (k == (j : Int)) = false := by simp; omega
      simp [this]
  · rw [withI_noitem h0 h1 (by omega)]
    have : (decide (0 ≤ i) && decide (i < 8)) = false := by simp; omega
    rw [Bool.and_assoc, this]
    simp

theorem without_in {s i : Int} (h0 : 0 ≤ s) (h1 : s < 256) (k : Int) : inB (withoutI s i) k = (inB s k && (k != i)) := by
  by_cases hi : 0 ≤ i ∧ i < 8
  · obtain ⟨n, rfl⟩ := nat_of h0
    obtain ⟨j, rfl⟩ := nat_of hi.1
    have a := without_all n (by omega) j (by omega)
    by_cases hk : 0 ≤ k ∧ k < 8
    · obtain ⟨m, rfl⟩ := nat_of hk.1
      rw [inB_pos a.2.1 (by omega) hk.1 hk.2, inB_pos h0 h1 hk.1 hk.2]
      have := a.2.2 m (by omega)
      simp only [Int.toNat_natCast] at this ⊢
      rw [this]
      have e : ((m : Int) != (j : Int)) = (m != j) := by
        rw [Bool.eq_iff_iff]; simp; omega
      rw [e]
    · rw [inB_noitem (by omega), inB_noitem (by omega)]
      rfl
  · rw [withoutI_noitem h0 h1 (by omega)]
    cases hb : inB s k with
    | false => rfl
    | true =>
      have := inB_big hb
      have : (k != i) = true := by simp; omega
      simp [this]

theorem full_in {n : Int} (h : 0 ≤ fullI n) (k : Int) : inB (fullI n) k = (decide (0 ≤ k) && decide (k < n)) := by
  by_cases hn : 0 ≤ n ∧ n ≤ 8
  · obtain ⟨m, rfl⟩ := nat_of hn.1
    have a := full_all m (by omega)
    by_cases hk : 0 ≤ k ∧ k < 8
    · obtain ⟨j, rfl⟩ := nat_of hk.1
      rw [inB_pos a.2.1 (by omega) hk.1 hk.2]
      have := a.2.2 j (by omega)
      simp only [Int.toNat_natCast] at this ⊢
      rw [this]
      simp
    · rw [inB_noitem (by omega)]
      simp
      omega
  · have : fullI n = -1 := by unfold fullI; rw [if_neg hn]
    omega

theorem first_least {s k : Int} (h : inB s k = true) : 0 ≤ firstI s ∧ ¬ k < firstI s := by
  have b := inB_big h
  obtain ⟨m, rfl⟩ := nat_of b.2.2.1
  have hb := seekI_bd (hasP s) 0 (by omega)
  have hle : seekI (hasP s) 0 ≤ m := by
    rcases Nat.lt_or_ge m (seekI (hasP s) 0) with hlt | hge
    · have := seekI_before (hasP s) 0 (by omega) m (by omega) hlt
      simp [hasP, h] at this
    · exact hge
  unfold firstI
  rw [if_neg (by omega)]
  omega

theorem first_in {s : Int} (h : 0 ≤ firstI s) : inB s (firstI s) = true := by
  unfold firstI at h ⊢
  by_cases e : seekI (hasP s) 0 = 8
  · rw [if_pos e] at h; omega
  · rw [if_neg e]
    have hb := seekI_bd (hasP s) 0 (by omega)
    exact seekI_at (hasP s) 0 (by omega) (by omega)

theorem first_none {s : Int} (h : firstI s < 0) (h0 : 0 ≤ s) (h1 : s < 256) : s = 0 := by
  obtain ⟨n, rfl⟩ := nat_of h0
  have e : seekI (hasP n) 0 = 8 := by
    unfold firstI at h
    by_cases e : seekI (hasP n) 0 = 8
    · exact e
    · rw [if_neg e] at h; omega
  have := zero_all n (by omega) (fun k hk => by
    have := seekI_before (hasP n) 0 (by omega) k (by omega) (by omega)
    simp only [hasP] at this
    rw [inB_pos h0 h1 (by omega) (by omega)] at this
    simpa using this)
  omega
end Go.Proofs.YtpdggofaobmnlaaGreatDoor
/- What the law on blocks asks, of plain lists: what is put is there, all else stays; chosen where they differ it is the other one. -/
namespace Go.Proofs.YtpdggofaobmnlaaGreatDoor
open Go.RowKit

theorem differUp_in (a b : List Int) : ∀ k, k ≤ 8 → ∀ j : Nat, inB (differUp a b k) j = decide (j < k ∧ a.getD j 0 ≠ b.getD j 0)
  | 0, _, j => by
    rw [differUp]
    by_cases h : (j : Int) < 8
    · have : ∀ j : Nat, j < 8 → inB 0 j = false := by decide +kernel
      simpa using this j (by omega)
    · simpa using inB_noitem (s := 0) (i := (j : Int)) (by omega)
  | k + 1, hk, j => by
    have ih := differUp_in a b k (by omega) j
    have bd := differUp_bd a b k (by omega)
    rw [differUp]
    split
    · rename_i e
      rw [ih]
      by_cases hj : j = k
      · subst hj; simp [-List.getD_eq_getElem?_getD, e]
      · have : j < k + 1 ↔ j < k := by omega
        simp [this]
    · rename_i e
      rw [with_in bd.1 bd.2 (j : Int), ih]
      by_cases hj : j = k
      · subst hj
        have h8 : (j : Int) < 8 := by omega
        simp [-List.getD_eq_getElem?_getD, e, h8]
      · have h1 : j < k + 1 ↔ j < k := by omega
        have h2 : ((j : Int) == (k : Int)) = false := by simp; omega
        simp [h1, h2]

theorem list_eq_getD {a b : List Int} (hl : a.length = b.length) (h : ∀ j, j < a.length → a.getD j 0 = b.getD j 0) : a = b := by
  apply List.ext_getElem hl
  intro j h1 h2
  have := h j h1
  simpa [List.getD, h1, h2] using this

theorem differI_ok {a b : List Int} (h : 0 ≤ differI a b) : bothOk a b = true ∧ differI a b = differUp a b 8 := by
  unfold differI at h ⊢
  by_cases e : bothOk a b = true
  · simp [e]
  · simp [e] at h

theorem chosenI_differ {a b : List Int} (h : 0 ≤ differI a b) : chosenI a b (differI a b) = b := by
  obtain ⟨h1, h2⟩ := differI_ok h
  obtain ⟨o1, o2, o3⟩ := bothOk_yes' h1
  have bd := differUp_bd a b 8 (by omega)
  have hl := blocksOk_len o1
  rw [h2]
  unfold chosenI
  rw [if_pos (by simp [h1, setOk_pos bd.1 bd.2])]
  refine list_eq_getD (by rw [chosenUp_len]; exact o3) (fun j hj => ?_)
  rw [chosenUp_len] at hj
  rw [chosenUp_getD a b _ 8 _ j hj, differUp_in a b 8 (by omega) j]
  by_cases e : a.getD j 0 = b.getD j 0
  · simp [-List.getD_eq_getElem?_getD, e]
  · have h8 : j < 8 := by omega
    rw [if_pos]
    exact ⟨h8, by simp only [decide_eq_true_eq]; exact ⟨h8, e⟩⟩

theorem chosenI_zero {a b : List Int} (h : 0 ≤ differI a b) : chosenI a b 0 = a := by
  obtain ⟨h1, h2⟩ := differI_ok h
  obtain ⟨o1, o2, o3⟩ := bothOk_yes' h1
  unfold chosenI
  rw [if_pos (by simp [h1, setOk])]
  refine list_eq_getD (by rw [chosenUp_len]) (fun j hj => ?_)
  rw [chosenUp_len] at hj
  rw [chosenUp_getD a b _ 8 _ j hj, if_neg]
  have hl := blocksOk_len o1
  have : ∀ j : Nat, j < 8 → inB 0 j = false := by decide +kernel
  rintro ⟨h8, e⟩
  rw [this j h8] at e; cases e

theorem differUp_symm (a b : List Int) : ∀ k, differUp b a k = differUp a b k
  | 0 => rfl
  | k + 1 => by
    rw [differUp, differUp, differUp_symm a b k]
    by_cases e : a.getD k 0 = b.getD k 0
    · rw [if_pos e, if_pos e.symm]
    · rw [if_neg e, if_neg (fun h => e h.symm)]

theorem differI_symm (a b : List Int) : differI b a = differI a b := by
  have : bothOk b a = bothOk a b := by
    unfold bothOk
    rw [Bool.eq_iff_iff]
    simp
    constructor
    · rintro ⟨h1, h2, h3⟩; exact ⟨h2, h1, h3.symm⟩
    · rintro ⟨h1, h2, h3⟩; exact ⟨h2, h1, h3.symm⟩
  unfold differI
  rw [this, differUp_symm]

theorem putB_ok {xs : List Int} {i v : Int} (h : putB xs i v = true) : blocksOk xs = true ∧ 0 ≤ i ∧ i < (xs.length : Int) ∧ valOk v = true ∧ putI xs i v = xs.set i.toNat v := by
  simp [putB, placeOk] at h
  obtain ⟨h1, h2, h3, h4⟩ := h
  refine ⟨h1, h2, h3, h4, ?_⟩
  simp [putI, h1, placeOk, h2, h3, h4]

theorem putI_at {xs : List Int} {i v : Int} (h : putB xs i v = true) : (putI xs i v).length = xs.length ∧ (putI xs i v).getD i.toNat 0 = v := by
  obtain ⟨h1, h2, h3, h4, h5⟩ := putB_ok h
  have : i.toNat < xs.length := by omega
  rw [h5]
  simp [List.getD, this]

theorem differ_put {xs : List Int} {i v : Int} (h : putB xs i v = true) : differI xs (putI xs i v) = 0 ∨ differI xs (putI xs i v) = withI 0 i := by
  obtain ⟨h1, h2, h3, h4, h5⟩ := putB_ok h
  have hl := blocksOk_len h1
  obtain ⟨k, rfl⟩ : ∃ k : Nat, i = k := ⟨i.toNat, by omega⟩
  rw [h5]
  simp only [Int.toNat_natCast]
  have hb : bothOk xs (xs.set k v) = true := by
    have hv : blocksOk (xs.set k v) = true := by
      simp only [blocksOk, List.length_set, Bool.and_eq_true, List.all_eq_true] at h1 ⊢
      refine ⟨fun x hx => ?_, h1.2⟩
      rcases List.mem_or_eq_of_mem_set hx with hx | rfl
      · exact h1.1 x hx
      · exact h4
    simp [bothOk, h1, hv]
  have key : ∀ m, m ≤ 8 → differUp xs (xs.set k v) m = 0 ∨ (k < m ∧ differUp xs (xs.set k v) m = withI 0 k) := by
    intro m
    induction m with
    | zero => intro _; exact .inl rfl
    | succ m ih =>
      intro hm
      rw [differUp]
      by_cases e : m = k
      · subst e
        rcases ih (by omega) with h0 | ⟨h0, _⟩
        · split
          · exact .inl h0
          · rw [h0]; exact .inr ⟨by omega, rfl⟩
        · omega
      · have e' : xs.getD m 0 = (xs.set k v).getD m 0 := by
          have e2 : ¬ k = m := fun h => e h.symm
          simp [List.getD, e2]
        rw [if_pos e']
        rcases ih (by omega) with h0 | ⟨h0, h6⟩
        · exact .inl h0
        · exact .inr ⟨by omega, h6⟩
  have hd : differI xs (xs.set k v) = differUp xs (xs.set k v) 8 := by simp [differI, hb]
  rw [hd]
  rcases key 8 (by omega) with h0 | ⟨_, h0⟩
  · exact .inl h0
  · exact .inr h0

theorem chosenI_get (p q : List Int) (s : Int) : (chosenI p q s).length = 0 ∨ ((chosenI p q s).length = p.length ∧ (chosenI p q s).length = q.length ∧ (chosenI p q s).length ≤ 8 ∧ ∀ j : Nat, j < p.length → (chosenI p q s).getD j 0 = if inB s j = true then q.getD j 0 else p.getD j 0) := by
  unfold chosenI
  by_cases e : (bothOk p q && setOk s) = true
  · rw [if_pos e]
    simp at e
    obtain ⟨o1, o2, o3⟩ := bothOk_yes' e.1
    have hl := blocksOk_len o1
    rw [chosenUp_len]
    refine .inr ⟨rfl, o3, hl.2, fun j hj => ?_⟩
    rw [chosenUp_getD p q s 8 _ j hj]
    have : j < 8 := by omega
    simp [this]
  · rw [if_neg e]; exact .inl rfl
end Go.Proofs.YtpdggofaobmnlaaGreatDoor
