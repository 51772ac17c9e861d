/- The program's heap of blocks, on: what is in it (Contains), what is put in (add), which set it is (set), and the heap of a copier's dirty ones (dirtyOf). -/
import Derived.Test.YtelfpdjidppblaaIHeapC
import Derived.Test.YtelfpdjidppblaaM1
namespace Go.Proofs.Ytelfpdjidppblaa
open Go.ChangeShapes Go.WideShapes Go.ChangeAt Go.RowKit

theorem mem_take_succ {l : List Int} {x : Int} {j : Nat} (h : j < l.length) (h0 : x ∉ l.take j) (hx : x ≠ l.getD j 0) : x ∉ l.take (j + 1) := by
  rw [List.take_succ_eq_append_getElem h, List.mem_append]
  rintro (h1 | h1)
  · exact h0 h1
  · simp at h1
    apply hx
    rw [h1]
    simp [h]
theorem getD_memI {l : List Int} {j : Nat} (h : j < l.length) : l.getD j 0 ∈ l := by
  simp only [List.getD_eq_getElem?_getD, List.getElem?_eq_getElem h, Option.getD_some]
  exact List.getElem_mem h

set_option maxRecDepth 20000 in
set_option maxHeartbeats 1000000 in
theorem hindex_any (v : Value) (l : List Int) (x : Int) (w : World) (h : Reads w v l) :
    Calls Try.prog 100 #[v, .int .i64 x] w fun e w' => ∃ y : Int, e = .returned (.int .i64 y) ∧ decide (0 ≤ y) = decide (x ∈ l) ∧ w' = w := by
  obtain ⟨ao, cap, rfl⟩ := reads_form h
  obtain ⟨-, hc1, hc2, hcell⟩ := reads_cells h
  unfold maxLen at hc2
  obtain ⟨n, hn⟩ : ∃ n, n = l.length := ⟨_, rfl⟩
  rw [← hn] at hc1 hcell ⊢
  have HN : Hid (n = l.length) := hn
  clear h hn
  go_enter Try.func100, Try.ntmps100
  go_wp2
  go_loop [8] (fun i => ∃ j : Nat, j ≤ n ∧ i = .int .i64 j ∧ Hid (x ∉ l.take j)) (fun i => n - (intOf i).toNat)
  case atStart => exact ⟨0, Nat.zero_le _, rfl, by simp [Hid]⟩
  case round =>
    obtain ⟨j, hj, rfl, HT⟩ := hrel
    by_cases hlt : (j : Int) < (n : Int)
    · obtain ⟨b, off, rfl, hcj⟩ := hcell j (by omega)
      clear hcell
      have hjl : j < l.length := by have := HN.out; omega
      have HM : Hid (l.getD j 0 ∈ l) := getD_memI hjl
      have HZ : Hid (x ≠ l.getD j 0 → x ∉ l.take (j + 1)) := mem_take_succ hjl HT.out
      obtain ⟨z, hz⟩ : ∃ z, z = l.getD j 0 := ⟨_, rfl⟩
      rw [← hz] at hcj HM HZ
      clear hz hjl
      by_cases e : x = z
      · have HU : Hid (decide (x ∈ l) = true) := by rw [Hid, e]; exact decide_eq_true HM.out
        have eb : (x == z) = true := by simpa using e
        clear e HM HZ
        go_wp2
        go_ret
        exact ⟨_, rfl, ⟨fun _ => of_decide_eq_true HU.out, fun _ => by omega⟩, rfl⟩
      · have eb : (x == z) = false := by simpa using e
        have HU : Hid (x ∉ l.take (j + 1)) := HZ.out e
        clear e HM HZ
        go_wp2
        go_round
        case rel => exact ⟨j + 1, by omega, by go_num, HU⟩
        case measure => simp [intOf]; omega
    · have HU : Hid (decide (x ∈ l) = false) := by
        have := HT.out
        rw [List.take_of_length_le (by have := HN.out; omega)] at this
        exact decide_eq_false this
      clear hcell
      go_wp2
      go_ret
      exact ⟨_, rfl, ⟨fun h => by omega, fun h => absurd h (of_decide_eq_false HU.out)⟩, rfl⟩

set_option maxRecDepth 20000 in
set_option maxHeartbeats 400000 in
theorem hcontains_any (v : Value) (l : List Int) (x : Int) (w : World) (h : Reads w v l) :
    Calls Try.prog 94 #[v, .int .i64 x] w fun e w' => e = .returned (.bool (decide (x ∈ l))) ∧ w' = w := by
  have c1 := hindex_any v l x w h
  clear h
  go_enter Try.func94, Try.ntmps94
  go_wp2_with fail
  refine c1.mono ?_
  rintro e w' ⟨y, rfl, hy, hw⟩
  subst w'
  have HY : Hid (decide (0 ≤ y) = decide (x ∈ l)) := hy
  clear hy c1
  go_wp2
  go_ret
  exact ⟨ret_bool HY.out, rfl⟩

set_option maxRecDepth 20000 in
set_option maxHeartbeats 400000 in
theorem iwithB_any (s i : Int) (w : World) (h0 : 0 ≤ s) (h1 : s < 256) (h2 : 0 ≤ i) (h3 : i < 8) :
    Calls Try.prog 85 #[.int .i64 s, .int .i64 i] w fun e w' => e = .returned (.int .i64 (withI s i)) ∧ w' = w := by
  go_enter Try.func85, Try.ntmps85
  go_wp2
  go_ret
  exact ⟨ret_int (or_in h0 h1 h2 h3), rfl⟩

set_option maxRecDepth 20000 in
set_option maxHeartbeats 1000000 in
theorem hset_any (v : Value) (l : List Int) (w : World) (h : Reads w v l) (hb : ∀ x ∈ l, 0 ≤ x ∧ x < 8) :
    Calls Try.prog 50 #[v] w fun e w' => e = .returned (.int .i64 (setL l)) ∧ w' = w := by
  obtain ⟨ao, cap, rfl⟩ := reads_form h
  obtain ⟨-, hc1, hc2, hcell⟩ := reads_cells h
  unfold maxLen at hc2
  obtain ⟨n, hn⟩ : ∃ n, n = l.length := ⟨_, rfl⟩
  rw [← hn] at hc1 hcell ⊢
  have HN : Hid (n = l.length) := hn
  have HB : Hid (∀ x ∈ l, 0 ≤ x ∧ x < 8) := hb
  have HD : Hid (∀ j, 0 ≤ setL (l.take j) ∧ setL (l.take j) < 256) := fun j => by
    have := setL_in (l := l.take j) (fun x hx => hb x (List.mem_of_mem_take hx))
    exact ⟨this.1, this.2.1⟩
  clear h hn hb
  go_enter Try.func50, Try.ntmps50
  go_wp2
  go_loop [3, 8] (fun q i => ∃ j : Nat, j ≤ n ∧ i = .int .i64 j ∧ ∃ y : Int, q = .int .i64 y ∧ Hid (y = setL (l.take j))) (fun _ i => n - (intOf i).toNat)
  case atStart => exact ⟨0, Nat.zero_le _, rfl, 0, rfl, by simp [Hid, setL]⟩
  case round =>
    obtain ⟨j, hj, rfl, y, rfl, HY⟩ := hrel
    by_cases hlt : (j : Int) < (n : Int)
    · obtain ⟨b, off, rfl, hcj⟩ := hcell j (by omega)
      clear hcell
      have hjl : j < l.length := by have := HN.out; omega
      have hm := HB.out _ (getD_memI hjl)
      have hd := HD.out j
      rw [← HY.out] at hd
      have HZ : Hid (withI y (l.getD j 0) = setL (l.take (j + 1))) := by rw [Hid, HY.out]; exact (setL_take l j hjl).symm
      have c1 := fun wx => iwithB_any y (l.getD j 0) wx hd.1 hd.2 hm.1 hm.2
      obtain ⟨z, hz⟩ : ∃ z, z = l.getD j 0 := ⟨_, rfl⟩
      rw [← hz] at hcj HZ
      simp only [← hz] at c1
      obtain ⟨q, hq⟩ : ∃ q, q = withI y z := ⟨_, rfl⟩
      rw [← hq] at HZ
      simp only [← hq] at c1
      clear hz hjl hm hd hq HY
      go_wp2_with fail
      refine (c1 _).mono ?_
      rintro e w' ⟨rfl, hw⟩; subst w'
      clear c1
      go_wp2
      go_round
      case rel => exact ⟨j + 1, by omega, by go_num, q, rfl, HZ⟩
      case measure => simp [intOf]; omega
    · have HU : Hid (y = setL l) := by
        have := HY.out
        rwa [List.take_of_length_le (by have := HN.out; omega)] at this
      clear hcell HY
      go_wp2
      go_ret
      exact ⟨ret_int HU.out, rfl⟩

set_option maxRecDepth 20000 in
set_option maxHeartbeats 2000000 in
theorem hadd_any (v : Value) (l : List Int) (s : Int) (base g : Nat) (w : World) (h : HpB w base g v l) (hd : l.Nodup) (hb : ∀ x ∈ l, 0 ≤ x ∧ x < 8) :
    Calls Try.prog 75 #[.pointer (some ⟨g, 0, none⟩), .int .i64 s] w fun e w' => e = .returned (.tuple #[]) ∧ ∃ u m, HpB w' base g u m ∧ Added l s 8 m ∧ Below base w w' := by
  have HH : Hid (HpB w base g v l) := h
  have HD : Hid (l.Nodup) := hd
  have HB : Hid (∀ x ∈ l, 0 ≤ x ∧ x < 8) := hb
  clear h hd hb
  go_enter Try.func75, Try.ntmps75
  go_wp2
  go_loopw [5] (fun i wr => ∃ (k : Nat) (u : Value) (m : List Int), i = .int .i64 k ∧ k ≤ 8 ∧ Hid (HpB wr base g u m ∧ Added l s k m ∧ Below base w wr)) (fun i _ => 8 - (intOf i).toNat)
  case atStart => exact ⟨0, v, l, rfl, by omega, HH.out, Added.start HD.out s, Below.refl _ _⟩
  case round =>
    obtain ⟨k, u, m, rfl, hk, HR⟩ := hrel
    have k0 : wr.cell? ⟨g, 0, none⟩ = some u := HR.out.1.cell
    by_cases hlt : (k : Int) < 8
    · have c1 := in_any s k wr
      have HS : Hid (inB s k = false → Added l s (k + 1) m) := HR.out.2.1.skip
      have HT : Hid (inB s k = true → (k : Int) ∈ m → Added l s (k + 1) m) := HR.out.2.1.there
      have HP : Hid (∀ q : List Int, inB s k = true → (k : Int) ∉ m → q.Perm (m ++ [(k : Int)]) → ((∀ y ∈ m, y ≤ (k : Int)) → q = m ++ [(k : Int)]) → Added l s (k + 1) q) := fun q => HR.out.2.1.push
      have hlm : m.length ≤ 8 := nodup_short HR.out.2.1.nodup (HR.out.2.1.bound HB.out (by omega))
      have c2 := hcontains_any u m k wr HR.out.1.own.reads
      have c3 := heapPush_any k u m base g wr HR.out.1 (by omega)
      obtain ⟨bi, hbi⟩ : ∃ bi, bi = inB s k := ⟨_, rfl⟩
      rw [← hbi] at c1 HS HT HP
      have HC : Hid (decide ((k : Int) ∈ m) = true → (k : Int) ∈ m) := of_decide_eq_true
      have HC' : Hid (decide ((k : Int) ∈ m) = false → (k : Int) ∉ m) := of_decide_eq_false
      obtain ⟨bc, hbc⟩ : ∃ bc, bc = decide ((k : Int) ∈ m) := ⟨_, rfl⟩
      rw [← hbc] at c2 HC HC'
      unfold hpIs at c3
      clear hbi hbc hlm
      go_wp2_with fail
      refine c1.mono ?_
      rintro e w' ⟨rfl, hw⟩; subst w'
      clear c1
      cases bi with
      | false =>
        have HA : Hid (Added l s (k + 1) m) := HS.out rfl
        clear HS HT HP HC HC' c2 c3
        go_wp2
        go_roundw
        case rel => exact ⟨k + 1, u, m, by go_num, by omega, HR.out.1, HA.out, HR.out.2.2⟩
        case measure => simp [intOf]; omega
      | true =>
        have HT' : Hid ((k : Int) ∈ m → Added l s (k + 1) m) := HT.out rfl
        have HP' : Hid (∀ q : List Int, (k : Int) ∉ m → q.Perm (m ++ [(k : Int)]) → ((∀ y ∈ m, y ≤ (k : Int)) → q = m ++ [(k : Int)]) → Added l s (k + 1) q) := fun q => HP.out q rfl
        clear HT HP HS
        go_wp2_with fail
        refine c2.mono ?_
        rintro e w' ⟨rfl, hw⟩; subst w'
        clear c2
        cases bc with
        | true =>
          have HA : Hid (Added l s (k + 1) m) := HT'.out (HC.out rfl)
          clear HT' HP' HC HC' c3
          go_wp2
          go_roundw
          case rel => exact ⟨k + 1, u, m, by go_num, by omega, HR.out.1, HA.out, HR.out.2.2⟩
          case measure => simp [intOf]; omega
        | false =>
          have HA : Hid ((k : Int) ∉ m) := HC'.out rfl
          clear HT' HC HC'
          go_wp2_with fail
          refine c3.mono ?_
          rintro e w3 ⟨rfl, u3, q, h3, p3, s3, b3⟩
          have HZ : Hid (HpB w3 base g u3 q ∧ Added l s (k + 1) q ∧ Below base w w3) := ⟨h3, HP'.out q HA.out p3 s3, HR.out.2.2.trans b3⟩
          clear c3 h3 p3 s3 b3 HP' HA
          go_wp2
          go_roundw
          case rel => exact ⟨k + 1, u3, q, by go_num, by omega, HZ.out⟩
          case measure => simp [intOf]; omega
    · have hk8 : k = 8 := by omega
      clear k0
      go_wp2
      go_end0
      have := HR.out
      rw [hk8] at this
      exact ⟨rfl, u, m, this⟩

set_option maxRecDepth 20000 in
set_option maxHeartbeats 1000000 in
theorem idirty_any (v : Value) (c : Cp) (w : World) (hr : Reads w v c.ts) :
    Calls Try.prog 46 #[CpV v c] w fun e w' => ∃ u, e = .returned u ∧ Own w' w.heap.size u (bagI c.di 8) ∧ Below w.heap.size w w' := by
  obtain ⟨ao, cap, rfl⟩ := reads_form hr
  obtain ⟨w1, hw1⟩ : ∃ w1, w1 = w.alloc (.cells (cpA (.slice ao c.ts.length cap) c) 26) := ⟨_, rfl⟩
  obtain ⟨w2, hw2⟩ : ∃ w2, w2 = w1.alloc (.cells #[] 2) := ⟨_, rfl⟩
  obtain ⟨w3, hw3⟩ : ∃ w3, w3 = w2.alloc (.cells #[.slice (some ⟨w.heap.size + 1, 0, none⟩) 0 0] 52) := ⟨_, rfl⟩
  have z1 : w1.heap.size = w.heap.size + 1 := by rw [hw1, World.size_alloc]
  have z2 : w2.heap.size = w.heap.size + 1 + 1 := by rw [hw2, World.size_alloc, z1]
  have b1 : Below w.heap.size w w1 := by rw [hw1]; exact (Below.refl _ _).alloc (Nat.le_refl _) _
  have b2 : Below w1.heap.size w1 w2 := by rw [hw2]; exact (Below.refl _ _).alloc (Nat.le_refl _) _
  have b3 : Below w2.heap.size w2 w3 := by rw [hw3]; exact (Below.refl _ _).alloc (Nat.le_refl _) _
  have s1 : StB w3 w.heap.size 26 (cpA (.slice ao c.ts.length cap) c) := by
    have : StB w1 w.heap.size 26 (cpA (.slice ao c.ts.length cap) c) := by rw [hw1]; exact StB.new _ _ _
    exact (this.below b2).below b3
  have o2 : Own w2 w.heap.size (.slice (some ⟨w.heap.size + 1, 0, none⟩) 0 0) [] := by
    rw [← z1, hw2]
    exact Own.mono (World.ownsRow_lit w1 #[] 0 (Nat.le_refl _) (Nat.zero_le _) rfl) (by omega)
  have h3 : HpB w3 w.heap.size (w.heap.size + 1 + 1) (.slice (some ⟨w.heap.size + 1, 0, none⟩) 0 0) [] := by
    refine ⟨?_, o2.below b3, by omega⟩
    rw [← z2, hw3]
    exact StB.new _ _ _
  have B3 : Hid (Below w.heap.size w w3) := (b1.trans (b2.mono b1.size)).trans (b3.mono (Nat.le_trans b1.size b2.size))
  have c1 := hadd_any _ [] c.di w.heap.size (w.heap.size + 1 + 1) w3 h3 List.nodup_nil (by simp)
  have k2 : w3.cell? ⟨w.heap.size, 2, none⟩ = some (.int .i64 c.di) := s1.cell 2 rfl
  have HW : Hid (w3 = ((w.alloc (.cells #[.int .i64 c.tr, .bool c.op, .int .i64 c.di, .int .i64 c.wa, .slice ao c.ts.length cap] 26)).alloc (.cells #[] 2)).alloc (.cells #[.slice (some ⟨w.heap.size + 1, 0, none⟩) 0 0] 52)) := by rw [Hid, hw3, hw2, hw1]; rfl
  clear hr hw1 hw2 hw3 z1 z2 b1 b2 b3 s1 o2 h3
  unfold CpV cpA
  go_enter Try.func46, Try.ntmps46
  go_upto_region 2 with fail
  rw [← HW.out]
  clear HW
  go_wp2_with fail
  refine c1.mono ?_
  rintro e w4 ⟨rfl, u, m, h4, a4, b4⟩
  have k4 := h4.cell
  obtain ⟨ao4, cap4, rfl⟩ := reads_form h4.own.reads
  have HE : Hid (Own w4 w.heap.size (.slice ao4 m.length cap4) (bagI c.di 8) ∧ Below w.heap.size w w4) := ⟨by rw [← a4.bag rfl]; exact h4.own, B3.out.trans b4⟩
  clear c1 h4 a4 b4 B3 k2
  go_wp2
  go_ret
  exact ⟨_, rfl, HE.out⟩
end Go.Proofs.Ytelfpdjidppblaa
