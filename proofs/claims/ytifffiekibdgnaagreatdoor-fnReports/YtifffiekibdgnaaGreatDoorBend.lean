/- Texts are bent: l1Bend of the model. -/
import Derived.Test.YtifffiekibdgnaaGreatDoorDrawFrames
import Derived.Laws.IdiomStrings
import Derived.Deep.RegionHeld3
namespace Go.Proofs.YtifffiekibdgnaaGreatDoor
open Go.ChangeShapes Go.WideShapes Go.ChangeAt Go.RowKit

/- Bytes in a block of the call's own, from its head on. -/
def Buf (w : World) (base g n cap : Nat) (l : Bs) : Prop :=
  base ≤ g ∧ g < w.heap.size ∧ n = l.length ∧ n ≤ cap ∧ cap ≤ maxLen ∧ ∀ j (h : j < l.length), w.cell? ⟨g, j, none⟩ = some (U l[j]) ∧ w.frozen? ⟨g, j, none⟩ = false
theorem Buf.kept {w w' : World} {base g n cap : Nat} {l : Bs} {row : Option Nat} (h : Buf w base g n cap l) (hg : w.grownBy w' row) (hne : some g ≠ row) : Buf w' base g n cap l := by
  obtain ⟨h1, h2, h3, h4, h5, h6⟩ := h
  have hb := hg.block g h2 hne
  exact ⟨h1, Nat.lt_of_lt_of_le h2 hg.size, h3, h4, h5, fun j hj => ⟨(World.cell?_of_block (a := ⟨g, j, none⟩) hb).trans (h6 j hj).1, (World.frozen?_of_block (a := ⟨g, j, none⟩) hb).trans (h6 j hj).2⟩⟩
theorem Buf.shrink {w : World} {base g n cap : Nat} {l : Bs} (h : Buf w base g n cap l) (k : Nat) (hk : k ≤ n) : Buf w base g k cap (l.take k) := by
  obtain ⟨h1, h2, h3, h4, h5, h6⟩ := h
  refine ⟨h1, h2, by simp; omega, by omega, h5, fun j hj => ?_⟩
  have hj' : j < k ∧ j < l.length := by simp at hj; omega
  have := h6 j hj'.2
  rw [List.getElem_take]
  exact this
theorem Buf.of_own {w : World} {base g n cap : Nat} {l : Bs} (h : OwnU w base (.slice (some ⟨g, 0, none⟩) n cap) l) : Buf w base g n cap l := by
  have hlt := h.lt g rfl
  rcases h.2 with ⟨e, _⟩ | ⟨g', cap', cur, e, hb, hg, hnc, hcm, hcs, ht⟩
  · cases e
  · cases e
    refine ⟨hlt.1, hlt.2, rfl, hnc, hcm, fun j hj => ⟨?_, World.ownsRow.frozenAt h j⟩⟩
    have := World.ownsRow.cellAt (w := w) h j (by omega)
    rw [this]
    simp [hj]
theorem Buf.str {w : World} {base g n cap : Nat} {l : Bs} (h : Buf w base g n cap l) : (convert 22 9 (.slice (some ⟨g, 0, none⟩) n cap)).run Tryz.prog w = .ok (S l) w := by
  obtain ⟨h1, h2, rfl, h4, h5, h6⟩ := h
  refine run_convert_bytes_back (P := Tryz.prog) w 22 9 5 ⟨g, 0, none⟩ cap l Tryz.underlying22 Tryz.underlying5 Tryz.underlying9 (fun j hj => ?_)
  rw [show (⟨g, 0, none⟩ : Addr).add j = ⟨g, j, none⟩ by unfold Addr.add; split <;> simp_all]
  exact (h6 j hj).1

theorem run_bytes (w : World) (s : Bs) (hs : s.length ≤ 1000000) : ∃ cap w1, (convert 9 22 (.string ⟨s.toArray⟩)).run Tryz.prog w = .ok (.slice (some ⟨w.heap.size, 0, none⟩) s.length cap) w1 ∧ Buf w1 w.heap.size w.heap.size s.length cap s ∧ w.grownBy w1 none := by
  have hr := run_bytes_of_string (P := Tryz.prog) w 9 22 5 ⟨s.toArray⟩ Tryz.underlying9 Tryz.underlying22 Tryz.underlying5
  have hsz : (⟨s.toArray⟩ : ByteArray).size = s.length := rfl
  rw [hsz] at hr
  refine ⟨_, _, hr, ?_, ⟨rfl, rfl, rfl, by simp, fun k hk _ => Below.heap_alloc w.drew _ k hk⟩⟩
  have hge := grownCap_ge w s.length 0 5
  have hcm := grownCap_le_maxLen w s.length 0 5 (by unfold maxLen; omega)
  generalize grownCap w s.length 0 5 = cap at hge hcm
  have hh : (w.drew.alloc (.cells (bytesRow ⟨s.toArray⟩ cap) 5 ((bytesRow ⟨s.toArray⟩ cap).size, (bytesRow ⟨s.toArray⟩ cap).size + 1))).heap[w.heap.size]? = some (.cells (bytesRow ⟨s.toArray⟩ cap) 5 ((bytesRow ⟨s.toArray⟩ cap).size, (bytesRow ⟨s.toArray⟩ cap).size + 1)) := heap_alloc_new w.drew _
  have hrs : s.length ≤ (bytesRow ⟨s.toArray⟩ cap).size := by simp [bytesRow, ByteArray.size]
  refine ⟨Nat.le_refl _, by simp, rfl, hge, hcm, fun j hj => ⟨?_, ?_⟩⟩
  · rw [cell_of_row _ w.heap.size j _ _ _ hh]
    unfold bytesRow
    rw [Array.getElem?_append_left (by simpa using hj)]
    simp [hj, U, byteI]
  · have h1 : ¬ (bytesRow ⟨s.toArray⟩ cap).size ≤ j := by omega
    simp only [World.frozen?, hh]
    simp [h1]

/- append of bytes onto a list of the call's own that is not nil, as one step of a region that draws. -/
theorem step_appendU {ops : Array Oper} {o : Oper} {a : Act} {w : World} {K : Act → World → Prop} {Q : Exit → Act → World → Prop} {E : Prop} (hgd : o.guard = none) (s x : Operand)
    (ho : o.op = .call { callee := .builtin .append, args := #[s, x], argTypes := #[22, 22] }) (base g n cap : Nat) (l : Bs) (hs : a.eval s = .slice (some ⟨g, 0, none⟩) n cap) (hown : OwnU w base (.slice (some ⟨g, 0, none⟩) n cap) l)
    (ad : Addr) (m c : Nat) (l2 : Bs) (hx : a.eval x = .slice (some ad) m c) (hm : m = l2.length) (hnews : ∀ j (hj : j < l2.length), w.cell? (ad.add j) = some (U l2[j])) (hsm : l.length + l2.length ≤ 10000000) (hbase : base ≤ w.heap.size)
    (h : ∀ g' cap' w', OwnU w' base (.slice (some ⟨g', 0, none⟩) (n + m) cap') (l ++ l2) → w.grownBy w' (some g) → K (a.put o.dst (.slice (some ⟨g', 0, none⟩) (n + m) cap')) w') : if Region.wanted o (yielded ops a.tmps) = true then Oper.wp Tryz.prog o a w K Q else E := by
  have hw : Region.wanted o (yielded ops a.tmps) = true := by simp [Region.wanted, hgd]
  rw [if_pos hw]
  obtain ⟨i0, hi, hz0, hz1, hz2⟩ := info_parts Tryz.infoU
  have hn : n = l.length := by
    rcases hown.2 with ⟨e, _⟩ | ⟨g', cap', cur, e, _⟩
    · cases e
    · cases e; rfl
  subst hn hm
  have hnews' : ∀ j u, (l2.map U)[j]? = some u → w.cell? (ad.add j) = some u := by
    intro j u hj
    have hlt : j < l2.length := by
      rcases Nat.lt_or_ge j l2.length with h | h
      · exact h
      · rw [List.getElem?_eq_none (by simpa using h)] at hj; cases hj
    rw [hnews j hlt]
    simpa [hlt] using hj
  have hone : ∀ u ∈ l2.map U, u.oneCell' = true := by
    intro u hu
    obtain ⟨b, _, rfl⟩ := List.mem_map.1 hu
    rfl
  obtain ⟨v', w', hrun, r1, r2, r3⟩ := run_append_own (P := Tryz.prog) w base 22 o.type 5 i0 (.int .u8 0) 1 1 Tryz.underlying22 hi hz0 hz1 hz2 rfl (by decide) _ l.length (l.map U) hown ad l2.length c (l2.map U) (by simp) hnews' hone (by unfold maxLen; omega) (by omega) hbase
  have hnil : v' ≠ .slice none 0 0 := fun e => by have := (r3.1 e).1; cases this
  rw [← List.map_append] at r1
  rcases r1.2 with ⟨e, _⟩ | ⟨g', cap', cur, e, rr⟩
  · exact absurd e hnil
  · subst e
    unfold Oper.wp
    simp [execOp, ho, resolve, invoke, builtin, hs, hx, hrun, Result.andThen]
    refine h g' cap' w' ?_ r2
    unfold OwnU
    rw [List.length_append]
    exact r1

def DrawnB (w0 w : World) (B c g n cap : Nat) (l : Bs) : Prop := Buf w w0.heap.size g n cap l ∧ Cur w B c ∧ w0.grownBy w (some c) ∧ c < w0.heap.size
theorem DrawnB.draw {w0 w w' : World} {B c g n cap : Nat} {l : Bs} (h : DrawnB w0 w B c g n cap l) (C : Cur w' B c) (G : w.grownBy w' (some c)) : DrawnB w0 w' B c g n cap l :=
  ⟨h.1.kept G (by have := h.1.1; have := h.2.2.2; simp; omega), C, h.2.2.1.trans G, h.2.2.2⟩
theorem DrawnB.put {w0 w : World} {B c g n cap : Nat} {l : Bs} (h : DrawnB w0 w B c g n cap l) (hB : B ≤ w0.heap.size) (k : Nat) (b : UInt8) : DrawnB w0 (w.setCell ⟨g, k, none⟩ (U b)) B c g n cap (l.set k b) := by
  obtain ⟨h1, h2, h3, h4⟩ := h
  have hg := grown_set w g k (U b)
  refine ⟨?_, h2.kept hg (by have := h1.1; simp; omega) (fun j e => by cases e; have := h1.1; omega), grown_ownU h3 hg (fun j e => by cases e; exact h1.1), h4⟩
  obtain ⟨g1, g2, g3, g4, g5, g6⟩ := h1
  refine ⟨g1, by simpa using g2, by simpa using g3, g4, g5, fun j hj => ?_⟩
  have hj' : j < l.length := by simpa using hj
  rw [World.frozen?_setCell, List.getElem_set]
  refine ⟨?_, (g6 j hj').2⟩
  by_cases e : k = j
  · subst e
    rw [if_pos rfl]
    exact World.cell?_setCell_same' w ⟨g, k, none⟩ (U b) (by rw [(g6 k hj').1]; rfl)
  · rw [if_neg e, ← (g6 j hj').1]
    apply World.cell?_setCell_other
    intro h
    cases h
    exact e rfl

theorem Buf.newsD {w : World} {base g n cap : Nat} {l : Bs} (h : Buf w base g n cap l) (k j : Nat) (hj : j < (l.drop k).length) : w.cell? ((⟨g, k, none⟩ : Addr).add j) = some (U (l.drop k)[j]) := by
  have hj' : k + j < l.length := by simp at hj; omega
  rw [show (⟨g, k, none⟩ : Addr).add j = ⟨g, k + j, none⟩ by unfold Addr.add; split <;> simp_all, (h.2.2.2.2.2 (k + j) hj').1, List.getElem_drop]
theorem DrawnB.keep {w0 w w' : World} {B c g n cap : Nat} {l : Bs} (h : DrawnB w0 w B c g n cap l) (G : w.grownBy w' none) : DrawnB w0 w' B c g n cap l :=
  ⟨h.1.kept G (by simp), h.2.1.kept G (by simp) (by simp), grown_ownU h.2.2.1 G (by simp), h.2.2.2⟩
theorem Buf.news {w : World} {base g n cap : Nat} {l : Bs} (h : Buf w base g n cap l) (j : Nat) (hj : j < l.length) (k : Nat) (hk : j < (l.take k).length) : w.cell? ((⟨g, 0, none⟩ : Addr).add j) = some (U (l.take k)[j]) := by
  rw [show (⟨g, 0, none⟩ : Addr).add j = ⟨g, j, none⟩ by unfold Addr.add; split <;> simp_all, (h.2.2.2.2.2 j hj).1, List.getElem_take]

theorem DrawnB.grow {w0 w w' : World} {B c g n cap g' n' cap' a : Nat} {l l' : Bs} (h : DrawnB w0 w B c g n cap l) (hB : B ≤ w0.heap.size) (G : w.grownBy w' (some a)) (ha : w0.heap.size ≤ a) (o : OwnU w' w0.heap.size (.slice (some ⟨g', 0, none⟩) n' cap') l') : DrawnB w0 w' B c g' n' cap' l' :=
  ⟨Buf.of_own o, h.2.1.kept G (by have := h.2.2.2; simp; omega) (fun k e => by cases e; omega), grown_ownU h.2.2.1 G (fun k e => by cases e; exact ha), h.2.2.2⟩

theorem DrawnB.growKeep {w0 w w' : World} {B c g n cap a : Nat} {l : Bs} (h : DrawnB w0 w B c g n cap l) (hB : B ≤ w0.heap.size) (G : w.grownBy w' (some a)) (ha : w0.heap.size ≤ a) (hne : g ≠ a) : DrawnB w0 w' B c g n cap l :=
  ⟨h.1.kept G (by simpa using hne), h.2.1.kept G (by have := h.2.2.2; simp; omega) (fun k e => by cases e; omega), grown_ownU h.2.2.1 G (fun k e => by cases e; exact ha), h.2.2.2⟩
theorem OwnU.alloc {w : World} {base : Nat} {v : Value} {l : Bs} (h : OwnU w base v l) (o : Obj) : OwnU (w.alloc o) base v l := World.ownsRow.alloc h o
theorem litU1' (w : World) (b : UInt8) (j : Nat) (hj : j < [b].length) : (w.alloc (.cells #[U b] 5)).cell? ((⟨w.heap.size, 0, none⟩ : Addr).add j) = some (U [b][j]) := by
  have e : j = 0 := by simpa using hj
  subst e
  exact litU1 w b 0 _ rfl

set_option maxRecDepth 20000 in
set_option maxHeartbeats 2000000 in
theorem bend_any (B c : Nat) (s z : Bs) (w : World) (h : Cur w B c) (hs : s.length ≤ 100000) (hz1 : 1 ≤ z.length) (hz2 : z.length ≤ 100) :
    Calls Tryz.prog 25 #[.pointer (some ⟨c, 0, none⟩), S s, S z] w fun e w' => ∃ l : Bs, e = .returned (S l) ∧ l.length ≤ s.length + 3 ∧ Cur w' B c ∧ w.grownBy w' (some c) := by
  have hBc := h.lt
  obtain ⟨cap0, w1, hr, hb1, hg1⟩ := run_bytes w s (by omega)
  have HD : Hid (DrawnB w w1 B c w.heap.size s.length cap0 s) := ⟨hb1, h.kept hg1 (by simp) (by simp), ⟨hg1.os, hg1.tape, hg1.output, hg1.size, fun k hk _ => hg1.block k hk (by simp)⟩, hBc.2⟩
  clear h hb1 hg1
  have hzs : (⟨z.toArray⟩ : ByteArray).size = z.length := rfl
  unfold S
  go_enter Tryz.func25, Tryz.ntmps25
  go_wp2_with fail
  refine (below_any B c 3 _ HD.out.2.1 (by omega)).mono ?_
  rintro e w2 ⟨n, rfl, hn0, hn1, hn2, C2, G2⟩
  have hn3 := hn1 (by omega)
  replace HD : Hid (DrawnB w w2 B c w.heap.size s.length cap0 s) := HD.out.draw C2 G2
  clear hn1 hn2 C2 G2 hr
  go_wp2
  go_loopw [7, 8] (fun v m wr => ∃ (k : Int) (l : Bs) (g cap : Nat), 0 ≤ k ∧ (l.length : Int) + k ≤ s.length + 3 ∧ m = .int .i64 k ∧ v = .slice (some ⟨g, 0, none⟩) l.length cap ∧ Hid (DrawnB w wr B c g l.length cap l)) (fun _ m _ => (intOf m).toNat)
  case atStart => exact ⟨n, s, _, _, hn0, by omega, rfl, rfl, HD⟩
  case round =>
    obtain ⟨k, l, g, cap, hk0, hkl, rfl, rfl, HR⟩ := hrel
    by_cases hend : 0 < k ∧ 0 < (l.length : Int)
    · obtain ⟨hkp, hlp⟩ := hend
      go_wp2_with fail
      refine (below_any B c _ _ HR.out.2.1 (by omega)).mono ?_
      rintro e w3 ⟨p, rfl, hp0, hp1, hp2, C3, G3⟩
      have hp3 := hp1 (by omega)
      replace HR : Hid (DrawnB w w3 B c g l.length cap l) := HR.out.draw C3 G3
      clear hp1 hp2 C3 G3
      go_wp2_with fail
      refine (below_any B c 4 _ HR.out.2.1 (by omega)).mono ?_
      rintro e w4 ⟨q, rfl, hq0, hq1, hq2, C4, G4⟩
      have hq3 := hq1 (by omega)
      replace HR : Hid (DrawnB w w4 B c g l.length cap l) := HR.out.draw C4 G4
      clear hq1 hq2 C4 G4
      obtain rfl | rfl | rfl | rfl : q = 0 ∨ q = 1 ∨ q = 2 ∨ q = 3 := by omega
      · have hcap := HR.out.1.2.2.2.1
        obtain ⟨pn, rfl⟩ : ∃ pn : Nat, p = pn := ⟨p.toNat, by omega⟩
        go_wp2_with fail
        refine (below_any B c _ _ HR.out.2.1 (by omega)).mono ?_
        rintro e w5 ⟨x, rfl, hx0, hx1, hx2, C5, G5⟩
        have hx3 := hx1 (by omega)
        replace HR : Hid (DrawnB w w5 B c g l.length cap l) := HR.out.draw C5 G5
        clear hx1 hx2 C5 G5
        have hx4 : x.toNat < (⟨z.toArray⟩ : ByteArray).size := by rw [hzs]; omega
        have hpn : pn < l.length := by omega
        have hc5 := (HR.out.1.2.2.2.2.2 pn hpn).1
        have hf5 := (HR.out.1.2.2.2.2.2 pn hpn).2
        have HR2 : Hid (DrawnB w (w5.setCell ⟨g, pn, none⟩ (U ((⟨z.toArray⟩ : ByteArray)[x.toNat]'hx4))) B c g l.length cap (l.set pn _)) := HR.out.put (by omega) pn ((⟨z.toArray⟩ : ByteArray)[x.toNat]'hx4)
        go_wp2
        go_roundw
        case rel => exact ⟨k - 1, l.set pn _, g, cap, by omega, by simp; omega, by go_num, by simp, by rw [List.length_set]; exact HR2⟩
        case measure => simp [intOf]; omega
      · have hcap := HR.out.1.2.2.2.1
        obtain ⟨pn, rfl⟩ : ∃ pn : Nat, p = pn := ⟨p.toNat, by omega⟩
        have HS := HR.out.1.shrink pn (by omega)
        have htl : (l.take pn).length = pn := by simp; omega
        have HR2 : Hid (DrawnB w w4 B c g pn cap (l.take pn)) := ⟨HS, HR.out.2⟩
        clear HS
        go_wp2
        go_roundw
        case rel => exact ⟨k - 1, l.take pn, g, cap, by omega, by omega, by go_num, by rw [htl], by rw [htl]; exact HR2⟩
        case measure => simp [intOf]; omega
      · have hcap := HR.out.1.2.2.2.1
        obtain ⟨pn, rfl⟩ : ∃ pn : Nat, p = pn := ⟨p.toNat, by omega⟩
        have hg4 := HR.out.1.2.1
        have HA : Hid (DrawnB w (w4.alloc (.cells #[] 5)).drew B c g l.length cap l) := HR.out.keep ⟨rfl, rfl, rfl, by simp, fun j hj _ => Below.heap_alloc w4 _ j hj⟩
        have h1s : (0 : Int) ≤ (pn : Int) + 1 := by omega
        have h2s : (pn : Int) + 1 ≤ (l.length : Int) := by omega
        have h3s : (l.length : Int) ≤ (cap : Int) := by omega
        have h4s : (pn : Int) ≤ (cap : Int) := by omega
        have hne4 : g ≠ w4.heap.size := by omega
        have hwr : IntKind.i64.wrap ((pn : Int) + 1) = (pn : Int) + 1 := by rw [IntKind.wrap_i64]; omega
        by_cases hcp : pn + 1 < cap
        · have hcp' : (pn : Int) + 1 < (cap : Int) := by omega
          go_wp2_with fail
          go_region_held3 (fun w' => True) (trivial)
            (first
              | (refine step_appendU rfl (.tmp 47) (.tmp 50) rfl w.heap.size w4.heap.size 0 0 [] (by simp [Act.eval]) (World.ownsRow_lit w4 #[] 0 (by have := HR.out.2.2.1.size; omega) (Nat.zero_le _) rfl) ⟨g, 0, none⟩ pn cap (l.take pn) (by simp [Act.eval]) (by simp; omega) (fun j hj => HA.out.1.news j (by simp at hj; omega) pn (by simpa using hj)) (by simp; omega) (by simp; have := HR.out.2.2.1.size; omega) ?_; intro g5 cap5 w5 o5 gr5; have b5 := HA.out.1.kept gr5 (by simpa using hne4); have s5 := gr5.size)
              | (refine step_appendU rfl (.tmp 51) (.tmp 55) rfl w.heap.size g5 pn cap5 (l.take pn) (by simp [Act.eval]) (by simpa using o5) ⟨g, pn + 1, none⟩ (l.length - (pn + 1)) (cap - (pn + 1)) (l.drop (pn + 1)) (by simp [Act.eval]; omega) (by simp) (fun j hj => b5.newsD (pn + 1) j hj) (by simp; omega) (by simp at s5; have := HR.out.2.2.1.size; omega) ?_; intro g6 cap6 w6 o6 gr6))
          have HR5 := HA.out.grow (by omega) gr5 (by have := HR.out.2.2.1.size; omega) o5
          have HR6 : Hid (DrawnB w w6 B c g6 _ cap6 _) := HR5.grow (by omega) gr6 (o5.lt g5 rfl).1 o6
          have hlen : (l.take pn ++ l.drop (pn + 1)).length = pn + (l.length - (pn + 1)) := by simp; omega
          clear HR5 o5 o6 gr5 gr6 b5 s5 HA HR
          go_wp2
          go_roundw
          case rel => exact ⟨k - 1, l.take pn ++ l.drop (pn + 1), g6, cap6, by omega, by omega, by go_num, by rw [hlen], by rw [hlen]; exact HR6⟩
          case measure => simp [intOf]; omega
        · obtain rfl : cap = pn + 1 := by omega
          have hl0 : l.length = pn + 1 := by omega
          have hll : Hid (l.length = pn + 1) := hl0
          have h5s : (pn : Int) ≤ ((pn + 1 : Nat) : Int) := by omega
          have h6s : (0 : Int) ≤ (pn : Int) := by omega
          have h7s : (pn : Int) ≤ (pn : Int) + 1 := by omega
          have h8s : pn ≤ pn + 1 := by omega
          rw [hl0] at HA HR hp3 hlp hkl ⊢
          clear h3s h4s hcp hcap h2s hl0
          go_wp2_with fail
          go_region_held3 (fun w' => True) (trivial)
            (first
              | (refine step_appendU rfl (.tmp 47) (.tmp 50) rfl w.heap.size w4.heap.size 0 0 [] (by simp [Act.eval]) (World.ownsRow_lit w4 #[] 0 (by have := HR.out.2.2.1.size; omega) (Nat.zero_le _) rfl) ⟨g, 0, none⟩ pn (pn + 1) (l.take pn) (by simp [Act.eval]) (by have := hll.out; simp; omega) (fun j hj => HA.out.1.news j (by have := hll.out; simp at hj; omega) pn (by simpa using hj)) (by have := hll.out; simp; omega) (by simp; have := HR.out.2.2.1.size; omega) ?_; intro g5 cap5 w5 o5 gr5; have b5 := HA.out.1.kept gr5 (by simpa using hne4); have s5 := gr5.size)
              | (refine step_appendU rfl (.tmp 51) (.tmp 55) rfl w.heap.size g5 pn cap5 (l.take pn) (by simp [Act.eval]) (by simpa using o5) ⟨g, 0, none⟩ 0 0 [] (by simp [Act.eval]) rfl (fun j hj => by simp at hj) (by have := hll.out; simp; omega) (by simp at s5; have := HR.out.2.2.1.size; omega) ?_; intro g6 cap6 w6 o6 gr6))
          have HR5 := HA.out.grow (by omega) gr5 (by have := HR.out.2.2.1.size; omega) o5
          rw [List.append_nil, Nat.add_zero] at o6
          have HR6 : Hid (DrawnB w w6 B c g6 pn cap6 (l.take pn)) := HR5.grow (by omega) gr6 (o5.lt g5 rfl).1 o6
          have hlen : (l.take pn).length = pn := by have := hll.out; simp; omega
          clear HR5 o5 o6 gr5 gr6 b5 s5 HA HR
          go_wp2
          go_roundw
          case rel => exact ⟨k - 1, l.take pn, g6, cap6, by omega, by omega, by go_num, by rw [hlen], by rw [hlen]; exact HR6⟩
          case measure => simp [intOf]; omega
      · have hcap := HR.out.1.2.2.2.1
        obtain ⟨pn, rfl⟩ : ∃ pn : Nat, p = pn := ⟨p.toNat, by omega⟩
        have hg4 := HR.out.1.2.1
        have hws := HR.out.2.2.1.size
        have HA : Hid (DrawnB w (w4.alloc (.cells #[] 5)).drew B c g l.length cap l) := HR.out.keep ⟨rfl, rfl, rfl, by simp, fun j hj _ => Below.heap_alloc w4 _ j hj⟩
        have h3s : (l.length : Int) ≤ (cap : Int) := by omega
        have h4s : (pn : Int) ≤ (cap : Int) := by omega
        have h5s : (0 : Int) ≤ (pn : Int) := by omega
        have h6s : (pn : Int) ≤ (l.length : Int) := by omega
        have hcp' : (pn : Int) < (cap : Int) := by omega
        have hne4 : g ≠ w4.heap.size := by omega
        go_wp2_with fail
        go_region_held3 (fun w' => True) (trivial)
          (first
            | (refine step_appendU rfl (.tmp 59) (.tmp 62) rfl w4.heap.size w4.heap.size 0 0 [] (by simp [Act.eval]) (World.ownsRow_lit w4 #[] 0 (Nat.le_refl _) (Nat.zero_le _) rfl) ⟨g, 0, none⟩ pn cap (l.take pn) (by simp [Act.eval]) (by simp; omega) (fun j hj => HA.out.1.news j (by simp at hj; omega) pn (by simpa using hj)) (by simp; omega) (by simp) ?_; intro g5 cap5 w5 o5 gr5; have HR5 : DrawnB w w5 B c g l.length cap l := HA.out.growKeep (by omega) gr5 hws hne4; have o5' : OwnU w5 w4.heap.size (.slice (some ⟨g5, 0, none⟩) pn cap5) (l.take pn) := (by simpa using o5); have hg5 := (o5'.lt g5 rfl).1; clear o5 gr5)
            | (go_at_call 49; refine (below_any B c _ w5 HR5.2.1 (by omega)).mono ?_; rintro e w6 ⟨x, rfl, hx0, hx1, hx2, C6, G6⟩; have hx3 := hx1 (by omega); have HR6 := HR5.draw C6 G6; have o6 := o5'.kept G6 (o5'.notAt (by omega)); have hx4 : x.toNat < (⟨z.toArray⟩ : ByteArray).size := (by rw [hzs]; omega); have s6 := (o6.lt g5 rfl).2; clear hx1 hx2 C6 G6)
            | (refine step_appendU rfl (.tmp 63) (.tmp 70) rfl w4.heap.size g5 pn cap5 (l.take pn) (by simp [Act.eval]) (o6.alloc _) ⟨w6.heap.size, 0, none⟩ 1 1 [(⟨z.toArray⟩ : ByteArray)[x.toNat]'hx4] (by simp [Act.eval]) rfl (litU1' w6 _) (by simp; omega) (by simp; omega) ?_; intro g7 cap7 w7 o7 gr7; have HR7 : DrawnB w w7 B c g l.length cap l := (HR6.keep (World.grownBy_alloc w6 _ none)).growKeep (by omega) gr7 (by omega) (by omega); have hg7 := (o7.lt g7 rfl).1; have s7 := (o7.lt g7 rfl).2; clear gr7)
            | (refine step_appendU rfl (.tmp 71) (.tmp 74) rfl w4.heap.size g7 (pn + 1) cap7 _ (by simp [Act.eval]) o7 ⟨g, pn, none⟩ (l.length - pn) (cap - pn) (l.drop pn) (by simp [Act.eval]) (by simp) (fun j hj => HR7.1.newsD pn j hj) (by simp; omega) (by omega) ?_; intro g8 cap8 w8 o8 gr8))
        have HR8 : Hid (DrawnB w w8 B c g8 _ cap8 _) := HR7.grow (by omega) gr8 (by omega) (o8.raise (fun k hk => by have := (o8.lt k hk).1; omega))
        obtain ⟨l8, hl8⟩ : ∃ l8, l8 = l.take pn ++ [(⟨z.toArray⟩ : ByteArray)[x.toNat]'hx4] ++ l.drop pn := ⟨_, rfl⟩
        rw [← hl8] at HR8
        have hlen : l8.length = pn + 1 + (l.length - pn) := by rw [hl8]; simp; omega
        clear hl8 o5' o6 o7 o8 gr8 HR5 HR6 HR7 HA HR
        go_wp2
        go_roundw
        case rel => exact ⟨k - 1, l8, g8, cap8, by omega, by omega, by go_num, by rw [hlen], by rw [hlen]; exact HR8⟩
        case measure => simp [intOf]; omega
    · have hstr := HR.out.1.str
      unfold S at hstr
      have hor : ¬ 0 < k ∨ (0 < k ∧ ¬ 0 < (l.length : Int)) := by omega
      rcases hor with h1 | ⟨h1, h2⟩
      all_goals
        go_wp2
        go_ret
        exact ⟨_, rfl, by omega, HR.out.2.1, HR.out.2.2.1⟩

theorem framedS_len (t : Bs) (h : t.length ≤ 301) : (framedS t).length ≤ 400 := by
  unfold framedS
  split
  · have h1 := dec_len 2 t.length (by omega)
    have h2 := dec_len 5 (chk t).toNat (by have := chk_bd t; omega)
    simp [framed]; omega
  · simp
end Go.Proofs.YtifffiekibdgnaaGreatDoor
