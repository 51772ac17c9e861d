/- The model's posts: Taken. -/
import Derived.Test.YtjbfncjdedigdaaM22
namespace Go.Proofs.Ytjbfncjdedigdaa
open Go.ChangeShapes Go.WideShapes Go.ChangeAt Go.RowKit

theorem results_MTM {t : TypeId} {n : Nat} (hS : IsS t n) {fn : Func} {p q r : Tmp} (h : fn.results = #[.tmp q, .cell p t, .tmp r]) (tmps : Array Value) (w : World) (g : Nat) (cs : Array Value) (x y : Value) (hn : cs.size = n)
    (hp : tmps.getD p undef = .pointer (some ⟨g, 0, none⟩)) (hx : tmps.getD q undef = x) (hy : tmps.getD r undef = y) (hr : StB w g t cs) : (results fn tmps).run Try.prog w = .ok (.tuple #[x, .agg cs, y]) w := by
  have hl := load_S hS w g cs hn hr
  have hp' : tmps[p]?.getD undef = .pointer (some ⟨g, 0, none⟩) := by simpa using hp
  have hx' : tmps[q]?.getD undef = x := by simpa using hx
  have hy' : tmps[r]?.getD undef = y := by simpa using hy
  simp [results, h, hp', hx', hy', asAddr, hl]
theorem zeroMg_is : zeroMg = mgA (.slice none 0 0) Mg.zero := rfl
theorem built_zeroM : Try.prog.built 35 [] = some zeroMg := by kernel_rfl

set_option maxRecDepth 20000 in
set_option maxHeartbeats 2000000 in
theorem sTaken_any (va : Value) (ps : List (Value × Mg)) (i : Int) (w : World) (ha : RdP w va ps) (sa : SmP ps) (la : ps.length ≤ 1048576) :
    Calls Try.prog 19 #[va, .int .i64 i] w fun e w' => ∃ u rs k, e = .returned (.tuple #[u, .agg (mgA k (takeP (msOf ps) i).2.1), .bool (takeP (msOf ps) i).2.2]) ∧ msOf rs = (takeP (msOf ps) i).1 ∧ OwnP w' w.heap.size u rs ∧ Mine w' w.heap.size k (takeP (msOf ps) i).2.1.h.ks ∧ Below w.heap.size w w' := by
  obtain ⟨w0, hw0⟩ : ∃ w0, w0 = w.alloc (.cells zeroMg 35) := ⟨_, rfl⟩
  have b0 : Below w.heap.size w w0 := by rw [hw0]; exact (Below.refl _ _).alloc (Nat.le_refl _) _
  have S0 : Hid (StB w0 w.heap.size 35 zeroMg ∧ Below w.heap.size w w0) := ⟨by rw [hw0]; exact StB.new _ _ _, b0⟩
  have c1 := spostok_any va ps w0 (ha.below b0) sa
  have HA : Hid (∀ wx, Below w0.heap.size w0 wx → RdP wx va ps) := fun wx b => (ha.below b0).below b
  have CC : Hid (∀ wx, Below w0.heap.size w0 wx → Calls Try.prog 37 #[va] wx fun e w' => ∃ u rs, e = .returned u ∧ msOf rs = msOf ps ∧ OwnP w' wx.heap.size u rs ∧ Below wx.heap.size wx w') := fun wx b => s16copy_any va ps wx (HA.out wx b) sa la
  have CW : Hid (∀ (k : Nat) wx, Below w0.heap.size w0 wx → k ≤ 1048576 → Calls Try.prog 39 #[va, .int .i64 k] wx fun e w' => ∃ u rs, e = .returned u ∧ msOf rs = (msOf ps).eraseIdx k ∧ OwnP w' wx.heap.size u rs ∧ Below wx.heap.size wx w') := fun k wx b hk => s16without_any va k ps wx (HA.out wx b) sa la hk
  obtain ⟨r, hr⟩ : ∃ r, r = takeP (msOf ps) i := ⟨_, rfl⟩
  rw [← hr]
  have HR : Hid (r = takeP (msOf ps) i) := hr
  have HSm : Hid (SmP ps) := sa
  have HA0 : Hid (RdP w va ps) := ha
  clear hr
  obtain ⟨x, hx⟩ : ∃ x, x = postOk (msOf ps) := ⟨_, rfl⟩
  rw [← hx] at c1
  obtain ⟨ao, ac, rfl⟩ := ha.form
  have HX : Hid (x = postOk (msOf ps)) := hx
  obtain ⟨-, hnc, hcm, -⟩ := ha.el
  unfold maxLen at hcm
  obtain ⟨n, hn⟩ : ∃ n, n = ps.length := ⟨_, rfl⟩
  rw [← hn] at HA HA0 CC CW c1 hnc ⊢
  have HN : Hid (n = ps.length) := hn
  clear hx ha sa la hn b0
  unfold zeroMg at hw0
  cases x with
  | false =>
    have HE : Hid (r = ([], Mg.zero, false)) := by rw [Hid, HR.out]; unfold takeP; rw [← HX.out]; rfl
    clear HX
    go_enter Try.func19, Try.ntmps19
    go_upto_region 1 with fail
    rw [← hw0]
    clear hw0
    go_wp2_with fail
    refine c1.mono ?_
    rintro e w1 ⟨rfl, b1⟩
    have B1 : Below w.heap.size w w1 := S0.out.2.trans (b1.mono S0.out.2.size)
    have S1 : StB (w1.alloc (.cells #[] 35)) w.heap.size 35 zeroMg := (S0.out.1.below b1).alloc _
    have HL : Hid (OwnP (w1.alloc (.cells #[] 35)) w0.heap.size (.slice (some ⟨w1.heap.size, 0, none⟩) 0 0) [] ∧ Below w.heap.size w (w1.alloc (.cells #[] 35)) ∧ w.heap.size < w0.heap.size) := ⟨OwnP.lit w1 _ b1.size, B1.alloc B1.size _, S0.out.1.lt⟩
    clear b1 c1 B1
    go_wp2_with (refine wpList_putS Try.isMg rfl _ _ rfl w.heap.size zeroMg zeroMg rfl rfl rfl rfl (mgA_one Mg.zero rfl) S1 ?_; intro w9 s9 g9)
    refine bodyPost_ret (results_MTM Try.isMg rfl _ _ w.heap.size zeroMg _ _ rfl rfl rfl rfl s9) rfl ?_
    rw [HE.out]
    exact ⟨_, [], .slice none 0 0, rfl, rfl, (HL.out.1.frame (fun x hx => g9.block x (HL.out.1.lt x hx).2 (fun e => by have := (HL.out.1.lt x hx).1; have := HL.out.2.2; cases e; omega))).mono (Nat.le_of_lt HL.out.2.2), .inl (Own.nil w9 _), HL.out.2.1.grown g9 HL.out.2.1.size (fun x e => by cases e; omega)⟩
  | true =>
    have hn40 : n ≤ 40 := by have := postOk_len HX.out.symm; rw [msOf_len, ← HN.out] at this; exact this
    have HF : Hid (¬ (0 ≤ i ∧ i < (n : Int)) → r = (msOf ps, Mg.zero, false)) := fun h => by
      rw [HR.out]
      unfold takeP
      rw [← HX.out, msOf_len, ← HN.out, if_neg h]
      rfl
    have HG : Hid ((0 ≤ i ∧ i < (n : Int)) → r = ((msOf ps).eraseIdx i.toNat, (msOf ps).getD i.toNat Mg.zero, true)) := fun h => by
      rw [HR.out]
      unfold takeP
      rw [← HX.out, msOf_len, ← HN.out, if_pos h]
      rfl
    clear HX HR
    go_enter Try.func19, Try.ntmps19
    go_upto_region 1 with fail
    rw [← hw0]
    clear hw0
    go_wp2_with fail
    refine c1.mono ?_
    rintro e w1 ⟨rfl, b1⟩
    have B1 : Hid (Below w.heap.size w w1 ∧ Below w0.heap.size w0 w1 ∧ StB w1 w.heap.size 35 zeroMg ∧ w.heap.size < w0.heap.size) := ⟨S0.out.2.trans (b1.mono S0.out.2.size), b1, S0.out.1.below b1, S0.out.1.lt⟩
    clear b1 c1 S0
    have HNo : Hid (¬ (0 ≤ i ∧ i < (n : Int)) → ∀ w2 w9 u2 rs, msOf rs = msOf ps → OwnP w2 w1.heap.size u2 rs → Below w1.heap.size w1 w2 → StB w9 w.heap.size 35 zeroMg → w2.grownBy w9 (some w.heap.size) → ∃ u rs k, Ending.returned (.tuple #[u2, .agg zeroMg, .bool false]) = .returned (.tuple #[u, .agg (mgA k r.2.1), .bool r.2.2]) ∧ msOf rs = r.1 ∧ OwnP w9 w.heap.size u rs ∧ Mine w9 w.heap.size k r.2.1.h.ks ∧ Below w.heap.size w w9) := by
      intro hno w2 w9 u2 rs er o2 b2 s9 g9
      have B2 : Below w.heap.size w w2 := B1.out.1.trans (b2.mono B1.out.1.size)
      rw [HF.out hno]
      exact ⟨u2, rs, .slice none 0 0, rfl, er, (o2.frame (fun x hx => g9.block x (o2.lt x hx).2 (fun e => by have := (o2.lt x hx).1; have := B1.out.2.2.1.lt; cases e; omega))).mono B1.out.1.size, .inl (Own.nil w9 _), B2.grown g9 B2.size (fun x e => by cases e; omega)⟩
    by_cases hin : 0 ≤ i ∧ i < (n : Int)
    · have HE : Hid (r = ((msOf ps).eraseIdx i.toNat, (msOf ps).getD i.toNat Mg.zero, true)) := HG.out hin
      obtain ⟨h0, h1⟩ := hin
      clear HF HG HNo CC
      obtain ⟨j, hj⟩ : ∃ j : Nat, i = j := ⟨i.toNat, by omega⟩
      subst hj
      obtain ⟨b, off, u, m, he, rfl, hrk, hc⟩ := (HA.out w1 B1.out.2.1).el.2.2.2 j (by omega)
      have C1 : Hid (∀ wx, Below w1.heap.size w1 wx → Calls Try.prog 39 #[.slice (some ⟨b, off, none⟩) n ac, .int .i64 j] wx fun e w' => ∃ u rs, e = .returned u ∧ msOf rs = (msOf ps).eraseIdx j ∧ OwnP w' wx.heap.size u rs ∧ Below wx.heap.size wx w') := fun wx b => CW.out j wx (B1.out.2.1.trans (b.mono B1.out.2.1.size)) (by omega)
      have C2 : Hid (∀ wx, Below w1.heap.size w1 wx → Calls Try.prog 40 #[.agg (mgA u m)] wx fun e w' => ∃ u, e = .returned (.agg (mgA u m)) ∧ Own w' wx.heap.size u m.h.ks ∧ Below wx.heap.size wx w') := fun wx b => s16copym_any u m wx (hrk.below b (Nat.le_refl _)) (HSm.out.at he)
      have HM : Hid ((msOf ps).getD (j : Int).toNat Mg.zero = m) := by
        have := msOf_at he
        rw [Hid]
        simp [List.getD, this]
      have hbg : b ≠ w.heap.size := by
        obtain ⟨b', off', u', m', _, e, _, hc'⟩ := HA0.out.el.2.2.2 j (by omega)
        cases e
        have := World.block_lt_of_cell? w _ (hc' 0 (by decide))
        exact Nat.ne_of_lt this
      have q0 : ∀ w', Sp w.heap.size w1 w' → w'.cell? ⟨b, off + j * 11, none⟩ = some (.int .i64 m.dst) := fun w' bb => bb _ _ hbg (hc 0 (by decide))
      have q1 : ∀ w', Sp w.heap.size w1 w' → w'.cell? ⟨b, off + j * 11 + 1, none⟩ = some (.int .i64 m.kd) := fun w' bb => bb _ _ hbg (hc 1 (by decide))
      have q2 : ∀ w', Sp w.heap.size w1 w' → w'.cell? ⟨b, off + j * 11 + 2, none⟩ = some (.int .i64 m.tr) := fun w' bb => bb _ _ hbg (hc 2 (by decide))
      have q3 : ∀ w', Sp w.heap.size w1 w' → w'.cell? ⟨b, off + j * 11 + 3, none⟩ = some (.int .i64 m.pl) := fun w' bb => bb _ _ hbg (hc 3 (by decide))
      have q4 : ∀ w', Sp w.heap.size w1 w' → w'.cell? ⟨b, off + j * 11 + 4, none⟩ = some (.int .i64 m.tn) := fun w' bb => bb _ _ hbg (hc 4 (by decide))
      have q5 : ∀ w', Sp w.heap.size w1 w' → w'.cell? ⟨b, off + j * 11 + 5, none⟩ = some (.int .i64 m.va) := fun w' bb => bb _ _ hbg (hc 5 (by decide))
      have q6 : ∀ w', Sp w.heap.size w1 w' → w'.cell? ⟨b, off + j * 11 + 6, none⟩ = some (.int .i64 m.ep) := fun w' bb => bb _ _ hbg (hc 6 (by decide))
      have q7 : ∀ w', Sp w.heap.size w1 w' → w'.cell? ⟨b, off + j * 11 + 7, none⟩ = some (u) := fun w' bb => bb _ _ hbg (hc 7 (by decide))
      have q8 : ∀ w', Sp w.heap.size w1 w' → w'.cell? ⟨b, off + j * 11 + 8, none⟩ = some (.int .i64 m.h.kd) := fun w' bb => bb _ _ hbg (hc 8 (by decide))
      have q9 : ∀ w', Sp w.heap.size w1 w' → w'.cell? ⟨b, off + j * 11 + 9, none⟩ = some (.int .i64 m.h.ho) := fun w' bb => bb _ _ hbg (hc 9 (by decide))
      have q10 : ∀ w', Sp w.heap.size w1 w' → w'.cell? ⟨b, off + j * 11 + 10, none⟩ = some (.int .i64 m.h.tu) := fun w' bb => bb _ _ hbg (hc 10 (by decide))
      have HU : Hid True := trivial
      clear hc hrk he HA HA0 CW
      have HM2 : Hid (∀ u2, Own w1 0 u2 m.h.ks → True) := fun _ _ => trivial
      clear HM2 HU
      conv at C2 in (mgA u m) => unfold mgA
      go_upto_region 5 with fail
      go_region_held3 (fun w' => Sp w.heap.size w1 w') ((repeat' (first | with_reducible assumption | with_reducible exact Sp.refl _ _ | with_reducible refine Sp.al ?_ | with_reducible refine Sp.dr ?_ | with_reducible refine Sp.set ?_ | with_reducible refine Sp.put ?_ (by with_reducible assumption) | with_reducible refine Sp.bel ?_ (by with_reducible assumption))))
        (first
          | (go_at_call 39; refine (C1.out _ (by repeat' (first | with_reducible assumption | with_reducible exact Below.refl _ _ | with_reducible refine bel_alloc ?_ | with_reducible refine bel_drew ?_ | with_reducible refine bel_trans ?_ (by with_reducible assumption)))).mono ?_; rintro e w3 ⟨u3, rs, rfl, er, o3, b3⟩; have B3 : Hid (Below w1.heap.size w1 w3 ∧ OwnP w3 w1.heap.size u3 rs ∧ msOf rs = (msOf ps).eraseIdx j) := ⟨(show Below w1.heap.size w1 w3 from (by repeat' (first | with_reducible assumption | with_reducible exact Below.refl _ _ | with_reducible refine bel_alloc ?_ | with_reducible refine bel_drew ?_ | with_reducible refine bel_trans ?_ (by with_reducible assumption)))), o3.mono (bl_size (by repeat' (first | with_reducible assumption | with_reducible exact Below.refl _ _ | with_reducible refine bel_alloc ?_ | with_reducible refine bel_drew ?_ | with_reducible refine bel_trans ?_ (by with_reducible assumption)))), er⟩; clear o3 er)
          | (go_at_call 40; refine (C2.out _ (by repeat' (first | with_reducible assumption | with_reducible exact Below.refl _ _ | with_reducible refine bel_alloc ?_ | with_reducible refine bel_drew ?_ | with_reducible refine bel_trans ?_ (by with_reducible assumption)))).mono ?_; rintro e w4 ⟨u4, rfl, o4, b4⟩; have B4 : Hid (Below w1.heap.size w1 w4 ∧ OwnP w4 w1.heap.size u3 rs ∧ msOf rs = (msOf ps).eraseIdx j ∧ Own w4 w1.heap.size u4 m.h.ks) := ⟨(show Below w1.heap.size w1 w4 from (by repeat' (first | with_reducible assumption | with_reducible exact Below.refl _ _ | with_reducible refine bel_alloc ?_ | with_reducible refine bel_drew ?_ | with_reducible refine bel_trans ?_ (by with_reducible assumption)))), (B3.out.2.1.below (show Below w3.heap.size w3 w4 from (by repeat' (first | with_reducible assumption | with_reducible exact Below.refl _ _ | with_reducible refine bel_alloc ?_ | with_reducible refine bel_drew ?_ | with_reducible refine bel_trans ?_ (by with_reducible assumption))))), B3.out.2.2, o4.mono (bl_size (by repeat' (first | with_reducible assumption | with_reducible exact Below.refl _ _ | with_reducible refine bel_alloc ?_ | with_reducible refine bel_drew ?_ | with_reducible refine bel_trans ?_ (by with_reducible assumption))))⟩; have hu4 : u4.oneCell' = true := reads_one o4.reads; have S4 : Hid (StB w4 w.heap.size 35 zeroMg) := B1.out.2.2.1.below B4.out.1; clear o4)
          | ((with_reducible show Oper.upon _ _ _ _ _ (Result.andThen (Sem.run _ (storeCells _ (mgA _ _).toList) _) _)); refine upon_putS w.heap.size 35 (mgA u4 m) zeroMg rfl (mgA_one _ hu4) S4.out ?_; intro w6 s6 g6))
      all_goals
        (try go_wp2)
        refine bodyPost_ret (results_MTM Try.isMg rfl _ _ w.heap.size (mgA u4 m) _ _ rfl rfl rfl rfl s6) rfl ?_
        rw [HE.out, HM.out]
        have hlt := B1.out.2.2.1.lt
        have B9 := B1.out.1.trans (B4.out.1.mono B1.out.1.size)
        exact ⟨_, rs, u4, rfl, B4.out.2.2.1, (B4.out.2.1.frame (fun x hx => g6.block x (B4.out.2.1.lt x hx).2 (fun e => by have := (B4.out.2.1.lt x hx).1; cases e; omega))).mono B1.out.1.size, .inl ((B4.out.2.2.2.keptLt g6 hlt).mono B1.out.1.size), B9.grown g6 B9.size (fun x e => by cases e; omega)⟩
    · have HZ : Hid (∀ w2 w9 u2 rs, msOf rs = msOf ps → OwnP w2 w1.heap.size u2 rs → Below w1.heap.size w1 w2 → StB w9 w.heap.size 35 zeroMg → w2.grownBy w9 (some w.heap.size) → ∃ u rs k, Ending.returned (.tuple #[u2, .agg zeroMg, .bool false]) = .returned (.tuple #[u, .agg (mgA k r.2.1), .bool r.2.2]) ∧ msOf rs = r.1 ∧ OwnP w9 w.heap.size u rs ∧ Mine w9 w.heap.size k r.2.1.h.ks ∧ Below w.heap.size w w9) := HNo.out hin
      clear HF HG HNo CW HA0
      by_cases h0 : i < 0
      · clear hin
        go_wp2_with fail
        refine (CC.out w1 B1.out.2.1).mono ?_
        rintro e w2 ⟨u2, rs, rfl, er, o2, b2⟩
        have S2 : StB w2 w.heap.size 35 zeroMg := B1.out.2.2.1.below b2
        have HP : Hid (msOf rs = msOf ps ∧ OwnP w2 w1.heap.size u2 rs ∧ Below w1.heap.size w1 w2) := ⟨er, o2, b2⟩
        clear er o2 b2
        go_wp2_with (refine wpList_putS Try.isMg rfl _ _ rfl w.heap.size zeroMg zeroMg rfl rfl rfl rfl (mgA_one Mg.zero rfl) S2 ?_; intro w9 s9 g9)
        refine bodyPost_ret (results_MTM Try.isMg rfl _ _ w.heap.size zeroMg _ _ rfl rfl rfl rfl s9) rfl ?_
        exact HZ.out w2 w9 u2 rs HP.out.1 HP.out.2.1 HP.out.2.2 s9 g9
      · have h1 : i ≥ (n : Int) := by omega
        clear hin
        go_wp2_with fail
        refine (CC.out w1 B1.out.2.1).mono ?_
        rintro e w2 ⟨u2, rs, rfl, er, o2, b2⟩
        have S2 : StB w2 w.heap.size 35 zeroMg := B1.out.2.2.1.below b2
        have HP : Hid (msOf rs = msOf ps ∧ OwnP w2 w1.heap.size u2 rs ∧ Below w1.heap.size w1 w2) := ⟨er, o2, b2⟩
        clear er o2 b2
        go_wp2_with (refine wpList_putS Try.isMg rfl _ _ rfl w.heap.size zeroMg zeroMg rfl rfl rfl rfl (mgA_one Mg.zero rfl) S2 ?_; intro w9 s9 g9)
        refine bodyPost_ret (results_MTM Try.isMg rfl _ _ w.heap.size zeroMg _ _ rfl rfl rfl rfl s9) rfl ?_
        exact HZ.out w2 w9 u2 rs HP.out.1 HP.out.2.1 HP.out.2.2 s9 g9
end Go.Proofs.Ytjbfncjdedigdaa
/- Posts by the program: Twice, Taken. -/
namespace Go.Proofs.Ytjbfncjdedigdaa
open Go.ChangeShapes Go.WideShapes Go.ChangeAt Go.RowKit

/- A part of a post. -/
theorem RdP.part {w : World} {b off n cap : Nat} {ps : List (Value × Mg)} (h : RdP w (.slice (some ⟨b, off, none⟩) n cap) ps) (l m : Nat) (hl : l ≤ m) (hm : m ≤ n) : RdP w (sliced (some ⟨b, off, none⟩) l m cap 11) ((ps.drop l).take (m - l)) := by
  obtain ⟨e, hnc, hcm, hel⟩ := h.el
  have hlen : ((ps.drop l).take (m - l)).length = m - l := by rw [List.length_take, List.length_drop]; omega
  refine ⟨⟨msC_sz _, ?_⟩, fun p hp => h.key p (List.mem_of_mem_drop (List.mem_of_mem_take hp))⟩
  refine ⟨if cap = l then some ⟨b, off, none⟩ else some ⟨b, off + l * 11, none⟩, cap - l, ?_, by rw [msC_len, hlen]; omega, ⟨by omega, fun e => by split at e <;> cases e⟩, ?_⟩
  · unfold sliced
    rw [msC_len, hlen]
    simp only [Option.map_some, addr_add]
  · by_cases hc : cap = l
    · left
      apply List.eq_nil_of_length_eq_zero
      rw [msC_len, hlen]; omega
    · refine .inr ⟨b, off + l * 11, by rw [if_neg hc], fun j i hj hi => ?_⟩
      rw [msC_len, hlen] at hj
      obtain ⟨b', off', u, q, he, hb, -, hcell⟩ := hel (l + j) (by omega)
      cases hb
      have e2 : ((ps.drop l).take (m - l))[j]? = some (u, q) := by rw [List.getElem?_take, if_pos hj, List.getElem?_drop, he]
      have e3 : (msC ((ps.drop l).take (m - l))).getD j #[] = mgA u q := by simp only [msC, List.getD, List.getElem?_map, e2]; rfl
      rw [e3, ← hcell i hi, show off + l * 11 + (j * 11 + i) = off + (l + j) * 11 + i by rw [Nat.add_mul]; omega]
theorem SmP.part {ps : List (Value × Mg)} (h : SmP ps) (l m : Nat) : SmP ((ps.drop l).take m) := fun p hp => h p (List.mem_of_mem_drop (List.mem_of_mem_take hp))
theorem one_part {ps : List (Value × Mg)} {j : Nat} {u : Value} {m : Mg} (e : ps[j]? = some (u, m)) : (ps.drop j).take (j + 1 - j) = [(u, m)] := by
  obtain ⟨hj, he⟩ := List.getElem?_eq_some_iff.1 e
  rw [Nat.add_sub_cancel_left, List.drop_eq_getElem_cons hj, he]
  rfl
theorem msOf_erase (ps : List (Value × Mg)) (j : Nat) : msOf ((ps.drop 0).take (j - 0)) ++ msOf ((ps.drop (j + 1)).take (ps.length - (j + 1))) = (msOf ps).eraseIdx j := by
  rw [List.drop_zero, Nat.sub_zero, List.eraseIdx_eq_take_drop_succ, List.take_of_length_le (l := ps.drop (j + 1)) (by rw [List.length_drop]; exact Nat.le_refl _)]
  simp [msOf]
theorem twice_is (ms : List Mg) (j : Nat) (m : Mg) (e : ms[j]? = some m) (h : postOk ms = true) : twiceP ms j = postP ms [m] := by
  obtain ⟨hj, he⟩ := List.getElem?_eq_some_iff.1 e
  have hm : m.ok = true := by
    unfold postOk at h
    simp only [Bool.and_eq_true, List.all_eq_true] at h
    exact h.2 m (List.mem_of_getElem? e)
  have h1 : postOk [m] = true := by unfold postOk; simp [hm]
  have h40 := postOk_len h
  unfold twiceP postP
  rw [h, h1]
  have eg : ms.getD (j : Int).toNat Mg.zero = m := by simp [List.getD, e]
  rw [eg]
  by_cases hl : ms.length = 40
  · have hno : ¬ ((0 ≤ (j : Int) ∧ (j : Int) < (ms.length : Int)) ∧ ms.length ≠ 40) := fun hh => hh.2 hl
    rw [if_neg hno, show decide (ms.length + [m].length ≤ 40) = false from decide_eq_false (by rw [hl]; simp)]
    rfl
  · have hyes : (0 ≤ (j : Int) ∧ (j : Int) < (ms.length : Int)) ∧ ms.length ≠ 40 := ⟨⟨by omega, by omega⟩, hl⟩
    rw [if_pos hyes, show decide (ms.length + [m].length ≤ 40) = true from decide_eq_true (by simp; omega)]
    rfl

set_option maxRecDepth 20000 in
set_option maxHeartbeats 1000000 in
theorem iTwice_any (va : Value) (ps : List (Value × Mg)) (i : Int) (w : World) (ha : RdP w va ps) (sa : SmP ps) :
    Calls Try.prog 14 #[va, .int .i64 i] w fun e w' => ∃ u rs, e = .returned (.tuple #[u, .bool (twiceP (msOf ps) i).2]) ∧ msOf rs = (twiceP (msOf ps) i).1 ∧ OwnP w' w.heap.size u rs ∧ Below w.heap.size w w' := by
  have c1 := ipostok_any va ps w ha sa
  have HA : Hid (∀ wx, Below w.heap.size w wx → RdP wx va ps) := fun wx b => ha.below b
  have C1 : Hid (∀ wx, Below w.heap.size w wx → ps.length ≤ 40 → Calls Try.prog 33 #[.slice (some ⟨wx.heap.size, 0, none⟩) 1 1] (wx.alloc (.cells #[va] 24)) fun e w' => ∃ u rs, e = .returned u ∧ msOf rs = msOf ps ∧ OwnP w' wx.heap.size u rs ∧ Below wx.heap.size wx w') := fun wx b l => igath1_any va ps wx (HA.out wx b) sa l
  obtain ⟨r, hr⟩ : ∃ r, r = twiceP (msOf ps) i := ⟨_, rfl⟩
  rw [← hr]
  have HR : Hid (r = twiceP (msOf ps) i) := hr
  have HSm : Hid (SmP ps) := sa
  clear hr
  obtain ⟨x, hx⟩ : ∃ x, x = postOk (msOf ps) := ⟨_, rfl⟩
  rw [← hx] at c1
  obtain ⟨ao, ac, rfl⟩ := ha.form
  have HX : Hid (x = postOk (msOf ps)) := hx
  obtain ⟨-, hnc, hcm, -⟩ := ha.el
  unfold maxLen at hcm
  obtain ⟨n, hn⟩ : ∃ n, n = ps.length := ⟨_, rfl⟩
  rw [← hn] at HA C1 c1 hnc ⊢
  have HN : Hid (n = ps.length) := hn
  clear hx ha sa hn
  cases x with
  | false =>
    have HE : Hid (r = ([], false)) := by rw [Hid, HR.out]; unfold twiceP; rw [← HX.out]; rfl
    clear HX C1
    go_enter Try.func14, Try.ntmps14
    go_wp2_with fail
    refine c1.mono ?_
    rintro e w1 ⟨rfl, b1⟩
    have HL : Hid (OwnP (w1.alloc (.cells #[] 35)) w.heap.size (.slice (some ⟨w1.heap.size, 0, none⟩) 0 0) [] ∧ Below w.heap.size w (w1.alloc (.cells #[] 35))) := ⟨OwnP.lit w1 _ b1.size, b1.alloc b1.size _⟩
    clear b1 c1
    go_wp2
    go_ret2
    rw [HE.out]
    exact ⟨_, _, rfl, rfl, HL.out.1, HL.out.2⟩
  | true =>
    have hn40 : n ≤ 40 := by have := postOk_len HX.out.symm; rw [msOf_len, ← HN.out] at this; exact this
    have CF := fun wx => ifind_any ao n ac i wx hn40
    go_enter Try.func14, Try.ntmps14
    go_wp2_with fail
    refine c1.mono ?_
    rintro e w1 ⟨rfl, b1⟩
    have B1 : Hid (Below w.heap.size w w1) := b1
    clear b1 c1
    by_cases hin : 0 ≤ i ∧ i < (n : Int)
    · obtain ⟨j, hj⟩ : ∃ j : Nat, i = j := ⟨i.toNat, by omega⟩
      subst hj
      obtain ⟨b, off, u, m, he, rfl, -, -⟩ := (HA.out w1 B1.out).el.2.2.2 j (by omega)
      have hjn : (j : Int) < (n : Int) := hin.2
      have hjc : (j : Int) + 1 ≤ (ac : Int) := by omega
      have C := iPosted_any (.slice (some ⟨b, off, none⟩) n ac) _ ps _ w1 (HA.out w1 B1.out) ((HA.out w1 B1.out).part j (j + 1) (by omega) (by omega)) HSm.out (HSm.out.part _ _)
      have HE : Hid (r = postP (msOf ps) [m]) := by rw [Hid, HR.out]; exact twice_is _ j m (msOf_at he) HX.out.symm
      rw [one_part he, show msOf [(u, m)] = [m] from rfl, ← HE.out] at C
      rw [show decide (0 ≤ (j : Int) ∧ (j : Int) < (n : Int)) = true from decide_eq_true hin] at CF
      clear HX HR C1
      go_wp2_with fail
      refine (CF _).mono ?_
      rintro e w' ⟨⟨k, rfl, hk⟩, hw⟩
      subst w'
      have hk := hk hin
      subst hk
      clear CF hin
      have es : sliced (some ⟨b, off, none⟩) j (j + 1) ac 11 = .slice (some ⟨b, off + j * 11, none⟩) 1 (ac - j) := by
        unfold sliced
        rw [if_neg (by omega)]
        simp [addr_add]
      rw [es] at C
      clear es
      go_wp2_with fail
      refine C.mono ?_
      rintro e w2 ⟨u2, rs, rfl, er, o2, b2⟩
      have B2 : Hid (Below w.heap.size w w2 ∧ OwnP w2 w.heap.size u2 rs ∧ msOf rs = r.1) := ⟨B1.out.trans (b2.mono B1.out.size), o2.mono B1.out.size, er⟩
      clear b2 o2 er C B1
      go_wp2
      go_ret2
      exact ⟨_, _, rfl, B2.out.2.2, B2.out.2.1, B2.out.1⟩
    · have HE : Hid (r = (msOf ps, false)) := by
        rw [Hid, HR.out]
        unfold twiceP
        rw [← HX.out, msOf_len, ← HN.out, if_neg (show ¬ ((0 ≤ i ∧ i < (n : Int)) ∧ n ≠ 40) from fun h => hin h.1)]
        rfl
      rw [show decide (0 ≤ i ∧ i < (n : Int)) = false from decide_eq_false hin] at CF
      clear HX HR
      go_wp2_with fail
      refine (CF _).mono ?_
      rintro e w' ⟨⟨k, rfl, -⟩, hw⟩
      subst w'
      clear CF hin
      go_wp2_with fail
      refine (C1.out w1 B1.out hn40).mono ?_
      rintro e w2 ⟨u2, rs, rfl, er, o2, b2⟩
      have B2 : Hid (Below w.heap.size w w2 ∧ OwnP w2 w.heap.size u2 rs ∧ msOf rs = msOf ps) := ⟨B1.out.trans (b2.mono B1.out.size), o2.mono B1.out.size, er⟩
      clear b2 o2 er C1 B1
      go_wp2
      go_ret2
      rw [HE.out]
      exact ⟨_, _, rfl, B2.out.2.2, B2.out.2.1, B2.out.1⟩
end Go.Proofs.Ytjbfncjdedigdaa
