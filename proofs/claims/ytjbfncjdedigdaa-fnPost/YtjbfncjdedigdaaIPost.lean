/- Posts by the program: allRight, PostOk, find, gathered. -/
import Derived.Test.YtjbfncjdedigdaaIMsg
namespace Go.Proofs.Ytjbfncjdedigdaa
open Go.ChangeShapes Go.WideShapes Go.ChangeAt Go.RowKit

set_option maxRecDepth 20000 in
set_option maxHeartbeats 1000000 in
theorem iallright_any (v : Value) (ps : List (Value × Mg)) (w : World) (hr : RdP w v ps) (hs : SmP ps) :
    Calls Try.prog 32 #[v] w fun e w' => e = .returned (.bool ((msOf ps).all Mg.ok)) ∧ Below w.heap.size w w' := by
  obtain ⟨ao, cap, rfl⟩ := hr.form
  have HR : Hid (∀ wx, Below w.heap.size w wx → RdP wx (.slice ao ps.length cap) ps) := fun wx b => hr.below b
  obtain ⟨-, hnc, hcm, -⟩ := hr.el
  unfold maxLen at hcm
  clear hr
  obtain ⟨n, hn⟩ : ∃ n, n = ps.length := ⟨_, rfl⟩
  rw [← hn] at HR hnc ⊢
  have HN : Hid (n = ps.length) := hn
  have HSm : Hid (SmP ps) := hs
  clear hn hs
  obtain ⟨r, hr⟩ : ∃ r, r = (msOf ps).all Mg.ok := ⟨_, rfl⟩
  rw [← hr]
  have HRr : Hid (r = (msOf ps).all Mg.ok) := hr
  clear hr
  go_enter Try.func32, Try.ntmps32
  go_wp2
  go_loopw [7] (fun i wr => ∃ j : Nat, j ≤ n ∧ i = .int .i64 j ∧ Hid (((msOf ps).take j).all Mg.ok = true ∧ Below w.heap.size w wr)) (fun i _ => n - (intOf i).toNat)
  case atStart => exact ⟨0, Nat.zero_le _, rfl, by simp, Below.refl _ _⟩
  case round =>
    obtain ⟨j, hj, rfl, HI⟩ := hrel
    by_cases hlt : (j : Int) < (n : Int)
    · obtain ⟨b, off, u, m, he, rfl, hrk, hc⟩ := (HR.out wr HI.out.2).el.2.2.2 j (by omega)
      obtain ⟨w1, hw1⟩ : ∃ w1, w1 = wr.alloc (.cells zeroMg 35) := ⟨_, rfl⟩
      have s1 : StB w1 wr.heap.size 35 zeroMg := by rw [hw1]; exact StB.new _ _ _
      have b1 : Below wr.heap.size wr w1 := by rw [hw1]; exact (Below.refl _ _).alloc (Nat.le_refl _) _
      have HC : Hid (∀ i, i < 11 → wr.cell? ⟨b, off + j * 11 + i, none⟩ = (mgA u m)[i]?) := hc
      have HE : Hid (ps[j]? = some (u, m) ∧ Reads wr u m.h.ks ∧ Below w.heap.size w wr) := ⟨he, hrk, HI.out.2⟩
      have hu : u.oneCell' = true := reads_one hrk
      clear hc hrk he
      unfold zeroMg at hw1
      go_upto_region 4 with (first | (refine wpList_getO Try.isMg rfl _ rfl b (off + j * 11) rfl (mgA u m) rfl HC.out ?_) | (rw [← hw1]; refine wpList_putS Try.isMg rfl _ _ rfl wr.heap.size (mgA u m) zeroMg rfl rfl rfl rfl (mgA_one _ hu) s1 ?_; intro w2 s2 g2))
      (try simp only [Act.put])
      have b2 : Below wr.heap.size wr w2 := b1.grown g2 b1.size (fun x e => by cases e; omega)
      have C := imsg_any u m w2 (HE.out.2.1.below b2 (Nat.le_refl _)) (HSm.out.at HE.out.1)
      obtain ⟨x, hx⟩ : ∃ x, x = m.ok := ⟨_, rfl⟩
      rw [← hx] at C
      have HX : Hid (x = m.ok) := hx
      have B2 : Hid (Below w.heap.size w w2) := HE.out.2.2.trans (b2.mono HE.out.2.2.size)
      clear hx b1 b2 s1 hw1 g2
      go_wp2_with (refine wpList_getS Try.isMg rfl _ rfl wr.heap.size rfl (mgA u m) rfl s2 ?_)
      refine C.mono ?_
      rintro e w3 ⟨rfl, b3⟩
      have HB : Hid (Below w.heap.size w w3) := B2.out.trans (b3.mono B2.out.size)
      clear b3 C HC s2
      cases x with
      | false =>
        have HF : Hid (r = false) := by rw [Hid, HRr.out]; rw [all_not_ok _ j m (msOf_at HE.out.1) HX.out.symm]
        clear HX
        go_wp2
        go_ret
        exact ⟨ret_bool (by rw [HF.out]), HB.out⟩
      | true =>
        have HT : Hid (((msOf ps).take (j + 1)).all Mg.ok = true) := all_take_ok _ j m (msOf_at HE.out.1) HI.out.1 HX.out.symm
        clear HX
        go_wp2
        go_roundw
        case rel => exact ⟨j + 1, by omega, by go_num, HT.out, HB.out⟩
        case measure => simp [intOf]; omega
    · have HT : Hid (r = true) := by
        have h1 := HI.out.1
        rw [List.take_of_length_le (by rw [msOf_len, ← HN.out]; omega)] at h1
        rw [Hid, HRr.out, h1]
      go_wp2
      go_ret
      exact ⟨ret_bool (by rw [HT.out]), HI.out.2⟩

set_option maxRecDepth 20000 in
set_option maxHeartbeats 1000000 in
theorem ipostok_any (v : Value) (ps : List (Value × Mg)) (w : World) (hr : RdP w v ps) (hs : SmP ps) :
    Calls Try.prog 17 #[v] w fun e w' => e = .returned (.bool (postOk (msOf ps))) ∧ Below w.heap.size w w' := by
  have C := iallright_any v ps w hr hs
  obtain ⟨ao, cap, rfl⟩ := hr.form
  obtain ⟨-, hnc, hcm, -⟩ := hr.el
  unfold maxLen at hcm
  have HE : Hid (postOk (msOf ps) = (decide (ps.length ≤ 40) && (msOf ps).all Mg.ok)) := by unfold postOk; rw [msOf_len]; rfl
  obtain ⟨r, hr'⟩ : ∃ r, r = postOk (msOf ps) := ⟨_, rfl⟩
  rw [← hr'] at HE ⊢
  obtain ⟨x, hx⟩ : ∃ x, x = (msOf ps).all Mg.ok := ⟨_, rfl⟩
  rw [← hx] at HE C
  obtain ⟨n, hn⟩ : ∃ n, n = ps.length := ⟨_, rfl⟩
  rw [← hn] at HE C hnc ⊢
  clear hr' hx hn hr hs
  by_cases h40 : (n : Int) ≤ 40
  · replace HE : Hid (r = x) := by rw [Hid, HE.out, show decide (n ≤ 40) = true from decide_eq_true (by omega)]; rfl
    go_enter Try.func17, Try.ntmps17
    go_wp2_with fail
    refine C.mono ?_
    rintro e w1 ⟨rfl, b1⟩
    have HB : Hid (Below w.heap.size w w1) := b1
    clear b1
    go_wp2
    go_ret
    exact ⟨ret_bool (by rw [HE.out]), HB.out⟩
  · replace HE : Hid (r = false) := by rw [Hid, HE.out, show decide (n ≤ 40) = false from decide_eq_false (by omega)]; rfl
    clear C
    go_enter Try.func17, Try.ntmps17
    go_wp2
    go_ret
    exact ⟨ret_bool (by rw [HE.out]), Below.refl _ _⟩

/- Where a letter is. -/
set_option maxRecDepth 20000 in
set_option maxHeartbeats 1000000 in
theorem ifind_any (ao : Option Addr) (n cap : Nat) (i : Int) (w : World) (hn : n ≤ 40) :
    Calls Try.prog 35 #[.slice ao n cap, .int .i64 i] w fun e w' => (∃ k : Int, e = .returned (.tuple #[.int .i64 k, .bool (decide (0 ≤ i ∧ i < (n : Int)))]) ∧ (0 ≤ i ∧ i < (n : Int) → k = i)) ∧ w' = w := by
  go_enter Try.func35, Try.ntmps35
  go_wp2
  go_step3
  go_wp2
  go_step3
  go_wp2
  go_loop [4, 5, 9] (fun k f q => ∃ j : Nat, ∃ l : Int, j ≤ n ∧ q = .int .i64 j ∧ f = .bool false ∧ k = .int .i64 l ∧ Hid ((j : Int) ≤ i ∨ (i < 0 ∧ j = 0))) (fun _ _ q => n - (intOf q).toNat)
  case atStart => exact ⟨0, 0, Nat.zero_le _, rfl, rfl, rfl, by rw [Hid]; omega⟩
  case round =>
    obtain ⟨j, l, hj, rfl, rfl, rfl, HI⟩ := hrel
    by_cases hlt : (j : Int) < (n : Int)
    · by_cases he : (j : Int) = i
      · have hb : ((j : Int) == i) = true := by simpa using he
        have HE : Hid ((j : Int) = i) := he
        clear he
        go_wp2
        go_ret2
        refine ⟨⟨_, ?_, fun _ => HE.out⟩, rfl⟩
        rw [show decide (0 ≤ i ∧ i < (n : Int)) = true from decide_eq_true (by have := HE.out; omega)]
        rfl
      · have hb : ((j : Int) == i) = false := by simpa using he
        by_cases hg : (j : Int) > i
        · have HE : Hid (¬ (0 ≤ i ∧ i < (n : Int))) := by rw [Hid]; have := HI.out; omega
          clear he
          go_wp2
          go_ret2
          refine ⟨⟨(j : Int), ?_, fun h => absurd h HE.out⟩, rfl⟩
          rw [show decide (0 ≤ i ∧ i < (n : Int)) = false from decide_eq_false HE.out]
          rfl
        · have HE : Hid (((j + 1 : Nat) : Int) ≤ i) := by rw [Hid]; omega
          clear he
          go_wp2
          go_round
          case rel => exact ⟨j + 1, _, by omega, by go_num, rfl, rfl, .inl HE.out⟩
          case measure => simp [intOf]; omega
    · have HE : Hid (¬ (0 ≤ i ∧ i < (n : Int))) := by rw [Hid]; have := HI.out; omega
      go_wp2
      go_ret2
      refine ⟨⟨l, ?_, fun h => absurd h HE.out⟩, rfl⟩
      rw [show decide (0 ≤ i ∧ i < (n : Int)) = false from decide_eq_false HE.out]
      rfl

/- What is gathered out of lists: each letter with keys of its own. -/
theorem joined_len {L : List (Value × List (Value × Mg))} (hl : ∀ p ∈ L, p.2.length ≤ 40) (j : Nat) : ((L.take j).flatMap fun p => msOf p.2).length ≤ 40 * j := by
  induction j generalizing L with
  | zero => simp
  | succ j ih =>
    cases L with
    | nil => simp
    | cons p L =>
      have h1 := hl p (by simp)
      have h2 := ih (L := L) (fun q hq => hl q (by simp [hq]))
      rw [List.take_succ_cons, List.flatMap_cons, List.length_append, msOf_len]
      omega
theorem joined_snoc (L : List (Value × List (Value × Mg))) (j : Nat) (p : Value × List (Value × Mg)) (e : L[j]? = some p) : ((L.take (j + 1)).flatMap fun p => msOf p.2) = ((L.take j).flatMap fun p => msOf p.2) ++ msOf p.2 := by
  obtain ⟨hj, rfl⟩ := List.getElem?_eq_some_iff.1 e
  rw [List.take_succ_eq_append_getElem hj, List.flatMap_append, List.flatMap_cons, List.flatMap_nil, List.append_nil]

set_option maxRecDepth 20000 in
set_option maxHeartbeats 2000000 in
theorem igath_any (g n : Nat) (L : List (Value × List (Value × Mg))) (w : World) (hn : n = L.length) (hL : n ≤ 2) (hg : ∀ j p, L[j]? = some p → w.cell? ⟨g, j, none⟩ = some p.1) (hr : ∀ p ∈ L, RdP w p.1 p.2) (hs : ∀ p ∈ L, SmP p.2) (hl : ∀ p ∈ L, p.2.length ≤ 40) :
    Calls Try.prog 33 #[.slice (some ⟨g, 0, none⟩) n n] w fun e w' => ∃ u qs, e = .returned u ∧ msOf qs = (L.flatMap fun p => msOf p.2) ∧ OwnP w' w.heap.size u qs ∧ Below w.heap.size w w' := by
  obtain ⟨i0, hi, hz0, hz1, hz2⟩ := info_parts Try.infoM
  have HR : Hid (∀ j p wx, L[j]? = some p → Below w.heap.size w wx → RdP wx p.1 p.2 ∧ wx.cell? ⟨g, j, none⟩ = some p.1) := fun j p wx e b => ⟨(hr p (List.mem_of_getElem? e)).below b, by
    have h := hg j p e
    rw [b.cell (p := ⟨g, j, none⟩) (World.block_lt_of_cell? w _ h)]
    exact h⟩
  have HN : Hid (n = L.length ∧ (∀ p ∈ L, SmP p.2) ∧ (∀ p ∈ L, p.2.length ≤ 40)) := ⟨hn, hs, hl⟩
  clear hn hs hl hr hg
  go_enter Try.func33, Try.ntmps33
  go_wp2
  go_loopw [3, 11] (fun out i wr => ∃ j : Nat, ∃ qs, j ≤ n ∧ i = .int .i64 j ∧ Hid (msOf qs = ((L.take j).flatMap fun p => msOf p.2) ∧ OwnP wr w.heap.size out qs ∧ Below w.heap.size w wr)) (fun _ i _ => n - (intOf i).toNat)
  case atStart => exact ⟨0, [], Nat.zero_le _, rfl, by simp [msOf], OwnP.lit w _ (Nat.le_refl _), (Below.refl _ _).alloc (Nat.le_refl _) _⟩
  case round =>
    obtain ⟨j, qs, hj, rfl, HI⟩ := hrel
    by_cases hlt : (j : Int) < (n : Int)
    · obtain ⟨p, hp⟩ : ∃ p, L[j]? = some p := ⟨_, List.getElem?_eq_getElem (by have := HN.out.1; omega)⟩
      obtain ⟨v, ps⟩ := p
      obtain ⟨hrd, hcell⟩ := HR.out j _ wr hp HI.out.2.2
      obtain ⟨ao, cap, hv⟩ := hrd.form
      simp only at hv hrd hcell
      subst hv
      obtain ⟨-, hmc, hcm, -⟩ := hrd.el
      unfold maxLen at hcm
      have hm40 : ps.length ≤ 40 := HN.out.2.2 _ (List.mem_of_getElem? hp)
      have HSm : Hid (SmP ps) := HN.out.2.1 _ (List.mem_of_getElem? hp)
      have HQ : Hid (((L.take (j + 1)).flatMap fun p => msOf p.2) = msOf qs ++ msOf ps ∧ qs.length ≤ 40 * j) := by
        refine ⟨by rw [joined_snoc L j _ hp, HI.out.1], ?_⟩
        have := joined_len HN.out.2.2 j
        rw [← HI.out.1, msOf_len] at this
        exact this
      obtain ⟨m, hm⟩ : ∃ m, m = ps.length := ⟨_, rfl⟩
      have HR2 : Hid (∀ wx, Below w.heap.size w wx → RdP wx (.slice ao m cap) ps) := by rw [hm]; exact fun wx b => (HR.out j _ wx hp b).1
      rw [← hm] at hcell hmc hm40
      have HM : Hid (m = ps.length) := hm
      clear hrd hm hp
      go_wp2
      go_loopw [3, 17] (fun out i wr => ∃ k : Nat, ∃ rs, k ≤ m ∧ i = .int .i64 k ∧ Hid (msOf rs = msOf qs ++ (msOf ps).take k ∧ OwnP wr w.heap.size out rs ∧ Below w.heap.size w wr)) (fun _ i _ => m - (intOf i).toNat)
      case atStart => exact ⟨0, qs, Nat.zero_le _, rfl, by simp, HI.out.2.1, HI.out.2.2⟩
      case round =>
        obtain ⟨k, rs, hk, rfl, HK⟩ := hrel
        by_cases hkm : (k : Int) < (m : Int)
        · obtain ⟨b, off, u, m1, he, rfl, hrk, hc⟩ := (HR2.out _ HK.out.2.2).el.2.2.2 k (by omega)
          obtain ⟨w1, hw1⟩ : ∃ w1, w1 = wr.alloc (.cells zeroMg 35) := ⟨_, rfl⟩
          have s1 : StB w1 wr.heap.size 35 zeroMg := by rw [hw1]; exact StB.new _ _ _
          have b1 : Below wr.heap.size wr w1 := by rw [hw1]; exact (Below.refl _ _).alloc (Nat.le_refl _) _
          have HC : Hid (∀ i, i < 11 → wr.cell? ⟨b, off + k * 11 + i, none⟩ = (mgA u m1)[i]?) := hc
          have HE : Hid (ps[k]? = some (u, m1) ∧ Reads wr u m1.h.ks) := ⟨he, hrk⟩
          have hu : u.oneCell' = true := reads_one hrk
          have hlq : (msC rs).length ≤ 80 + k := by
            have h1 := congrArg List.length HK.out.1
            have h2 := HQ.out.2
            rw [msOf_len, List.length_append, msOf_len, List.length_take] at h1
            rw [msC_len]; omega
          clear hc hrk he
          unfold zeroMg at hw1
          go_upto_region 8 with (first | (refine wpList_getO Try.isMg rfl _ rfl b (off + k * 11) rfl (mgA u m1) rfl HC.out ?_) | (rw [← hw1]; refine wpList_putS Try.isMg rfl _ _ rfl wr.heap.size (mgA u m1) zeroMg rfl rfl rfl rfl (mgA_one _ hu) s1 ?_; intro w2 s2 g2))
          (try simp only [Act.put])
          have b2 : Below wr.heap.size wr w2 := b1.grown g2 b1.size (fun x e => by cases e; omega)
          have C := ifreshMsg_any u m1 w2 (HE.out.2.below b2 (Nat.le_refl _)) (HSm.out.at HE.out.1)
          have HB2 : Hid (OwnP w2 w.heap.size u3 rs ∧ Below w.heap.size w w2) := ⟨HK.out.2.1.below b2, HK.out.2.2.trans (b2.mono HK.out.2.2.size)⟩
          clear b1 b2 s1 hw1 g2 hu HC
          go_wp2_with (refine wpList_getS Try.isMg rfl _ rfl wr.heap.size rfl (mgA u m1) rfl s2 ?_)
          refine C.mono ?_
          rintro e w3 ⟨u4, rfl, o3, b3⟩
          have hu : u4.oneCell' = true := reads_one o3.reads
          have HP : Hid (OwnP w3 w.heap.size u3 rs ∧ Below w.heap.size w w3 ∧ Mine w3 w2.heap.size u4 m1.h.ks ∧ Below w2.heap.size w2 w3) := ⟨HB2.out.1.below b3, HB2.out.2.trans (b3.mono HB2.out.2.size), o3, b3⟩
          clear C o3 b3 s2
          unfold MgV
          have hrow : (w3.alloc (.cells (mgA u4 m1) 35)).ownsRow w.heap.size 35 11 u3 (msC rs).length (flatC (msC rs)) := (HP.out.1.row.below ((Below.refl _ _).alloc (Nat.le_refl _) _)).ow
          have hsz : w.heap.size ≤ (w3.alloc (.cells (mgA u4 m1) 35)).heap.size := by rw [World.size_alloc]; exact Nat.le_succ_of_le HP.out.2.1.size
          go_wp2_with (first | (at_builtin; refine wpList_append_own _ rfl _ _ 24 rfl w.heap.size 35 i0 (.agg zeroMg) 11 104 Try.underlying24 hi hz0 hz1 hz2 rfl (by decide) _ _ _ rfl hrow ⟨w3.heap.size, 0, none⟩ 1 1 (mgA u4 m1).toList rfl rfl (new_cells w3 _ _) (mgA_each m1 hu) (by unfold maxLen; omega) (by omega) hsz ?_) | (refine wpList_litM rfl _ rfl u4 m1 rfl ?_))
          intro v' w4 hown' hgrow _
          have HZ : Hid (OwnP w4 w.heap.size v' (rs ++ [(u4, m1)]) ∧ Below w.heap.size w w4 ∧ msOf (rs ++ [(u4, m1)]) = msOf qs ++ (msOf ps).take (k + 1)) := by
            refine ⟨HB2.out.1.push HP.out.2.2.1 HP.out.2.2.2 HB2.out.2.size hown' hgrow, (HP.out.2.1.alloc HP.out.2.1.size _).grown hgrow (by rw [World.size_alloc]; exact Nat.le_succ_of_le HP.out.2.1.size) (fun x e => (HP.out.1.row.lt x (by simp [e])).1), ?_⟩
            rw [msOf_push, HK.out.1, take_snocM _ k m1 (msOf_at HE.out.1), List.append_assoc]
          clear hrow hsz hown' hgrow
          go_wp2
          go_roundw
          case rel => exact ⟨k + 1, _, by omega, by go_num, HZ.out.2.2, HZ.out.1, HZ.out.2.1⟩
          case measure => simp [intOf]; omega
        · go_wp2
          go_roundw
          case rel => exact ⟨j + 1, rs, by omega, by go_num, by rw [HQ.out.1, HK.out.1, List.take_of_length_le (by rw [msOf_len, ← HM.out]; omega)], HK.out.2.1, HK.out.2.2⟩
          case measure => simp [intOf]; omega
    · go_wp2
      go_ret
      have h1 := HI.out.1
      rw [List.take_of_length_le (by have := HN.out.1; omega)] at h1
      exact ⟨_, rfl, _, h1, HI.out.2.1, HI.out.2.2⟩
end Go.Proofs.Ytjbfncjdedigdaa
