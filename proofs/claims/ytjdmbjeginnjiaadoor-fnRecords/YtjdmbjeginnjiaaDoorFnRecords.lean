/- At every list of bytes the law FnRecords returns true: what was noted last is recalled, whatever was half noted behind it; and the program answers as the model. -/
import Derived.Test.YtjdmbjeginnjiaaDoorRows
import Derived.WalkKit
import Derived.ProofKit
import Derived.OpenShut
import Derived.ShutString
import Derived.ChangeOld
import Derived.Below
import Derived.Test.YtjdmbjeginnjiaaDoorDrawRec
import Derived.Test.YtjdmbjeginnjiaaDoorIRecall
import Derived.Test.YtjdmbjeginnjiaaDoorTabs
import Derived.Lay
import Derived.LaidOnce
import Derived.Test.YtjdmbjeginnjiaaDoorCards
import Derived.Test.YtjdmbjeginnjiaaDoorTie
import Derived.SevenTiedAt
namespace Go.Proofs.YtjdmbjeginnjiaaDoor.fnRecords
open Go.ChangeShapes Go.WideShapes Go.ChangeAt Go.RowKit
open Go.ChangeMaps (open_string shut_string)
set_option linter.unusedVariables false

theorem own : ownKnob Tryd.prog.godebug = none := by kernel_rfl
theorem laidOut : laidOutB Tryd.prog = true := by kernel_rfl

def IsRow (k : IntKind) (w : World) (a : Option Addr) (len cap : Nat) (zs : List Int) : Prop :=
  (a = none ∧ len = 0 ∧ cap = 0 ∧ zs = []) ∨
  ∃ x, a = some x ∧ len ≤ cap ∧ cap ≤ maxLen ∧ zs.length = cap ∧ (∀ i, i < zs.length → w.cell? (x.add i) = some (.int k (zs.getD i 0))) ∧ ∀ n ∈ zs, (Lit.int k n).wf = true

set_option maxRecDepth 20000 in
set_option maxHeartbeats 20000000 in
theorem walk (a0 : Option Addr) (len0 cap0 : Nat) (z0 : List Int) (w : World) (w0 : IsRow .u8 w a0 len0 cap0 z0) (hT : Tab w) :
    Calls Tryd.prog 3 #[.slice a0 len0 cap0] w fun e w' => e = .returned (.bool true) ∧ Below w.heap.size w w' := by
  have HP : Hid (Tab w) := hT
  clear hT
  by_cases hbig : (4096 : Int) < (len0 : Int)
  · go_enter Tryd.func3, Tryd.ntmps3
    go_wp2_with (go_at_call 8; refine (big_any _ _ _ _).mono ?_; rintro e w' ⟨rfl, hw'⟩; subst w')
    go_ret
    exact ⟨rfl, Below.refl _ _⟩
  · have HC : Hid (CodeOk w w.heap.size (.slice a0 len0 cap0)) := codeOk_row w0 (by omega)
    clear w0
    have HS : Hid (Sta w w []) := Sta.start w
    go_enter Tryd.func3, Tryd.ntmps3
    go_wp2_with fail
    refine (big_any _ _ _ _).mono ?_
    rintro e w' ⟨rfl, hw'⟩; subst w'
    go_wp2_with fail
    refine (drawNoted_any w.heap.size _ _ (HC.out.below HS.out.below) HS.out.below.size).mono ?_
    rintro e w1 ⟨log, r, rfl, hlog, hfit, hshort, b1⟩
    replace HS : Hid (Sta w w1 []) := HS.out.next b1
    clear b1
    replace HS : Hid (Sta w (w1.alloc (.cells #[.int .i64 r.e, .int .i64 r.s, .int .i64 r.t, .int .i64 r.n] 25)) [Blk w1.heap.size 25 (recA r)]) := HS.out.box 25 (recA r)
    have HSH : Hid ((framesB log).2 = log.length → log.length < 2000) := hshort
    have cn := fun wx h => inoted_any log r wx (by omega) h
    have csn := fun wx => snoted_any log r wx (by omega)
    have cio := fun wx => irecok_any r wx
    have cso := fun wx => srecok_any r wx
    have hxl := noteS_len log r
    have HNO : Hid (noteY log r = false → noteS log r = log) := fun h => by simp [noteS, h]
    have HYE : Hid (noteY log r = true → r.ok = true ∧ noteS log r = log ++ framed (showR r)) := fun h => ⟨by unfold noteY at h; simp only [Bool.and_eq_true] at h; exact h.1, by simp [noteS, h]⟩
    obtain ⟨x, hx⟩ : ∃ x, x = noteS log r := ⟨_, rfl⟩
    obtain ⟨is, his⟩ : ∃ is, is = noteY log r := ⟨_, rfl⟩
    obtain ⟨rk, hrk⟩ : ∃ rk, rk = r.ok := ⟨_, rfl⟩
    rw [← hx] at hxl HNO HYE
    rw [← his] at HNO HYE
    simp only [← hx, ← his] at cn csn
    simp only [← hrk] at cio cso
    unfold S RV recA at cn csn
    unfold RV recA at cio cso
    unfold S RV recA
    clear hx his hrk hshort hfit
    go_wp2_with fail
    refine (cn _ (HP.out.below HS.out.below)).mono ?_
    rintro e w2 ⟨rfl, b2⟩
    replace HS : Hid (Sta w w2 [Blk w1.heap.size 25 (recA r)]) := HS.out.next b2
    clear b2
    clear cn
    go_wp2_with fail
    refine (drawRecalled_any w.heap.size _ _ (HC.out.below HS.out.below) HS.out.below.size).mono ?_
    rintro e w3 ⟨s, rfl, hs, b3⟩
    replace HS : Hid (Sta w w3 [Blk w1.heap.size 25 (recA r)]) := HS.out.next b3
    clear b3
    have cr := fun wx h => irecall_any s wx (by omega) h
    have csr := fun wx => srecall_any s wx (by omega)
    obtain ⟨q, hq⟩ : ∃ q, q = recR (recallB s) := ⟨_, rfl⟩
    obtain ⟨pt, hpt⟩ : ∃ pt, pt = s.take (recAt (recallB s)) := ⟨_, rfl⟩
    obtain ⟨th, hth⟩ : ∃ th, th = (recallB s).isSome := ⟨_, rfl⟩
    simp only [← hq, ← hpt, ← hth] at cr csr
    unfold S RV recA at cr csr
    unfold S
    clear hq hpt hth
    go_wp2_with fail
    refine (cr _ (HP.out.below HS.out.below)).mono ?_
    rintro e w4 ⟨rfl, b4⟩
    replace HS : Hid (Sta w w4 [Blk w1.heap.size 25 (recA r)]) := HS.out.next b4
    clear b4
    replace HS : Hid (Sta w (w4.alloc (.cells #[.int .i64 q.e, .int .i64 q.s, .int .i64 q.t, .int .i64 q.n] 25)) [Blk w4.heap.size 25 (recA q), Blk w1.heap.size 25 (recA r)]) := HS.out.box 25 (recA q)
    clear cr
    go_wp2_with fail
    refine (drawShow_any w.heap.size _ _ (HC.out.below HS.out.below) HS.out.below.size).mono ?_
    rintro e w5 ⟨p, rfl, hpf, b5⟩
    replace HS : Hid (Sta w w5 [Blk w4.heap.size 25 (recA q), Blk w1.heap.size 25 (recA r)]) := HS.out.next b5
    clear b5
    replace HS : Hid (Sta w (w5.alloc (.cells #[.int .i64 p.e, .int .i64 p.s, .int .i64 p.t, .int .i64 p.n] 25)) [Blk w5.heap.size 25 (recA p), Blk w4.heap.size 25 (recA q), Blk w1.heap.size 25 (recA r)]) := HS.out.box 25 (recA p)
    have ci := fun wx h => ishow_any p wx h
    have css := fun wx => sshow_any p wx hpf
    have hsl := showS_len p
    have HPO : Hid (p.ok = true → recO (showS p) = p ∧ isR (showS p) = true ∧ (showS p).isEmpty = false) := fun h => by
      have e : showS p = showR p := by simp [showS, h]
      rw [e]
      have := readR_yes (readR_show p h)
      exact ⟨this.1, this.2, rfl⟩
    have HPN : Hid (p.ok = false → showS p = []) := fun h => by simp [showS, h]
    have crt := fun wx => ireadR_any (showS p) wx (by omega)
    obtain ⟨t, ht⟩ : ∃ t, t = showS p := ⟨_, rfl⟩
    rw [← ht] at hsl HPO HPN
    simp only [← ht] at ci css crt
    unfold S RV recA at ci css crt
    unfold RV recA
    clear ht hpf
    go_wp2_with fail
    refine (ci _ (HP.out.below HS.out.below)).mono ?_
    rintro e w6 ⟨rfl, b6⟩
    replace HS : Hid (Sta w w6 [Blk w5.heap.size 25 (recA p), Blk w4.heap.size 25 (recA q), Blk w1.heap.size 25 (recA r)]) := HS.out.next b6
    clear b6
    clear ci
    go_wp2_with fail
    refine (drawRead_any w.heap.size _ _ (HC.out.below HS.out.below) HS.out.below.size).mono ?_
    rintro e w7 ⟨u, rfl, hu, b7⟩
    replace HS : Hid (Sta w w7 [Blk w5.heap.size 25 (recA p), Blk w4.heap.size 25 (recA q), Blk w1.heap.size 25 (recA r)]) := HS.out.next b7
    clear b7
    have cr := fun wx => ireadR_any u wx (by omega)
    have csu := fun wx => sreadR_any u wx (by omega)
    have HU : Hid (isR u = true → showS (recO u) = u) := fun h => by
      unfold isR at h
      cases hr : readR u with
      | none => rw [hr] at h; cases h
      | some v =>
        obtain ⟨h1, h2⟩ := showR_read u v hr
        rw [(readR_yes hr).1]
        simp [showS, h1, h2]
    have civ := fun wx h => ishow_any (recO u) wx h
    obtain ⟨v, hv⟩ : ∃ v, v = recO u := ⟨_, rfl⟩
    obtain ⟨rd, hrd⟩ : ∃ rd, rd = isR u := ⟨_, rfl⟩
    rw [← hv, ← hrd] at HU
    simp only [← hv] at civ
    simp only [← hv, ← hrd] at cr csu
    unfold S RV recA at cr csu
    unfold S
    clear hv hrd
    go_wp2_with fail
    refine (cr _).mono ?_
    rintro e w8 ⟨rfl, b8⟩
    replace HS : Hid (Sta w w8 [Blk w5.heap.size 25 (recA p), Blk w4.heap.size 25 (recA q), Blk w1.heap.size 25 (recA r)]) := HS.out.next b8
    clear b8
    replace HS : Hid (Sta w (w8.alloc (.cells #[.int .i64 v.e, .int .i64 v.s, .int .i64 v.t, .int .i64 v.n] 25)) [Blk w8.heap.size 25 (recA v), Blk w5.heap.size 25 (recA p), Blk w4.heap.size 25 (recA q), Blk w1.heap.size 25 (recA r)]) := HS.out.box 25 (recA v)
    clear cr
    have hg4 : w1.heap.size < w8.heap.size := ((HS.out.lt 3 rfl) w1.heap.size (by simp [Blk])).2 |> fun h => by
      have h2 := HS.out.lt 3 rfl w1.heap.size (by simp [Blk])
      have h3 := HS.out.apart
      simp [Apart, Blk] at h3
      rw [World.size_alloc] at h
      omega
    go_wp2_with (refine wpList_getR rfl _ rfl w1.heap.size rfl r (show RecB (w8.alloc (.cells #[.int .i64 v.e, .int .i64 v.s, .int .i64 v.t, .int .i64 v.n] 25)) w1.heap.size 25 r from HS.out.get 3 rfl) ?_; unfold RV recA)
    refine (csn _).mono ?_
    rintro e w9 ⟨rfl, b9⟩
    replace HS : Hid (Sta w w9 [Blk w8.heap.size 25 (recA v), Blk w5.heap.size 25 (recA p), Blk w4.heap.size 25 (recA q), Blk w1.heap.size 25 (recA r)]) := HS.out.next b9
    clear b9
    have Hcsr : Hid _ := csr
    clear csr
    have Hcsu : Hid _ := csu
    clear csu
    have Hciv : Hid _ := civ
    clear civ
    have Hcrt : Hid _ := crt
    clear crt
    have Hcsn : Hid _ := csn
    clear csn
    have ka0 : w9.cell? ⟨w5.heap.size, 0, none⟩ = some (.int .i64 p.e) := RecB.cell (show RecB w9 w5.heap.size 25 p from HS.out.get 1 rfl) 0 rfl
    have ka1 : w9.cell? ⟨w5.heap.size, 1, none⟩ = some (.int .i64 p.s) := RecB.cell (show RecB w9 w5.heap.size 25 p from HS.out.get 1 rfl) 1 rfl
    have ka2 : w9.cell? ⟨w5.heap.size, 2, none⟩ = some (.int .i64 p.t) := RecB.cell (show RecB w9 w5.heap.size 25 p from HS.out.get 1 rfl) 2 rfl
    have ka3 : w9.cell? ⟨w5.heap.size, 3, none⟩ = some (.int .i64 p.n) := RecB.cell (show RecB w9 w5.heap.size 25 p from HS.out.get 1 rfl) 3 rfl
    have kb0 : w9.cell? ⟨w1.heap.size, 0, none⟩ = some (.int .i64 r.e) := RecB.cell (show RecB w9 w1.heap.size 25 r from HS.out.get 3 rfl) 0 rfl
    have kb1 : w9.cell? ⟨w1.heap.size, 1, none⟩ = some (.int .i64 r.s) := RecB.cell (show RecB w9 w1.heap.size 25 r from HS.out.get 3 rfl) 1 rfl
    have kb2 : w9.cell? ⟨w1.heap.size, 2, none⟩ = some (.int .i64 r.t) := RecB.cell (show RecB w9 w1.heap.size 25 r from HS.out.get 3 rfl) 2 rfl
    have kb3 : w9.cell? ⟨w1.heap.size, 3, none⟩ = some (.int .i64 r.n) := RecB.cell (show RecB w9 w1.heap.size 25 r from HS.out.get 3 rfl) 3 rfl
    go_wp2_with fail
    go_region_held3 (fun w' => (w'.cell? ⟨w5.heap.size, 0, none⟩ = some (.int .i64 p.e) ∧ w'.cell? ⟨w5.heap.size, 1, none⟩ = some (.int .i64 p.s) ∧ w'.cell? ⟨w5.heap.size, 2, none⟩ = some (.int .i64 p.t) ∧ w'.cell? ⟨w5.heap.size, 3, none⟩ = some (.int .i64 p.n)) ∧ (w'.cell? ⟨w1.heap.size, 0, none⟩ = some (.int .i64 r.e) ∧ w'.cell? ⟨w1.heap.size, 1, none⟩ = some (.int .i64 r.s) ∧ w'.cell? ⟨w1.heap.size, 2, none⟩ = some (.int .i64 r.t) ∧ w'.cell? ⟨w1.heap.size, 3, none⟩ = some (.int .i64 r.n))) (go_keep)
      (first
      | (go_at_call 18; refine (css _).mono ?_; rintro e wA ⟨rfl, bA⟩; have HA : Hid _ := HS.out.drew1.next bA; clear bA; have kp0 : wA.cell? ⟨w5.heap.size, 0, none⟩ = some (.int .i64 p.e) := RecB.cell (show RecB wA w5.heap.size 25 p from HA.out.get 1 rfl) 0 rfl; have kp1 : wA.cell? ⟨w5.heap.size, 1, none⟩ = some (.int .i64 p.s) := RecB.cell (show RecB wA w5.heap.size 25 p from HA.out.get 1 rfl) 1 rfl; have kp2 : wA.cell? ⟨w5.heap.size, 2, none⟩ = some (.int .i64 p.t) := RecB.cell (show RecB wA w5.heap.size 25 p from HA.out.get 1 rfl) 2 rfl; have kp3 : wA.cell? ⟨w5.heap.size, 3, none⟩ = some (.int .i64 p.n) := RecB.cell (show RecB wA w5.heap.size 25 p from HA.out.get 1 rfl) 3 rfl; have kc0 : wA.cell? ⟨w1.heap.size, 0, none⟩ = some (.int .i64 r.e) := RecB.cell (show RecB wA w1.heap.size 25 r from HA.out.get 3 rfl) 0 rfl; have kc1 : wA.cell? ⟨w1.heap.size, 1, none⟩ = some (.int .i64 r.s) := RecB.cell (show RecB wA w1.heap.size 25 r from HA.out.get 3 rfl) 1 rfl; have kc2 : wA.cell? ⟨w1.heap.size, 2, none⟩ = some (.int .i64 r.t) := RecB.cell (show RecB wA w1.heap.size 25 r from HA.out.get 3 rfl) 2 rfl; have kc3 : wA.cell? ⟨w1.heap.size, 3, none⟩ = some (.int .i64 r.n) := RecB.cell (show RecB wA w1.heap.size 25 r from HA.out.get 3 rfl) 3 rfl)
      | (go_at_call 19; refine (cio _).mono ?_; rintro e wB ⟨rfl, bB⟩; have HB : Hid _ := HA.out.next bB; clear bB; have kq0 : wB.cell? ⟨w5.heap.size, 0, none⟩ = some (.int .i64 p.e) := RecB.cell (show RecB wB w5.heap.size 25 p from HB.out.get 1 rfl) 0 rfl; have kq1 : wB.cell? ⟨w5.heap.size, 1, none⟩ = some (.int .i64 p.s) := RecB.cell (show RecB wB w5.heap.size 25 p from HB.out.get 1 rfl) 1 rfl; have kq2 : wB.cell? ⟨w5.heap.size, 2, none⟩ = some (.int .i64 p.t) := RecB.cell (show RecB wB w5.heap.size 25 p from HB.out.get 1 rfl) 2 rfl; have kq3 : wB.cell? ⟨w5.heap.size, 3, none⟩ = some (.int .i64 p.n) := RecB.cell (show RecB wB w5.heap.size 25 p from HB.out.get 1 rfl) 3 rfl; have kd0 : wB.cell? ⟨w1.heap.size, 0, none⟩ = some (.int .i64 r.e) := RecB.cell (show RecB wB w1.heap.size 25 r from HB.out.get 3 rfl) 0 rfl; have kd1 : wB.cell? ⟨w1.heap.size, 1, none⟩ = some (.int .i64 r.s) := RecB.cell (show RecB wB w1.heap.size 25 r from HB.out.get 3 rfl) 1 rfl; have kd2 : wB.cell? ⟨w1.heap.size, 2, none⟩ = some (.int .i64 r.t) := RecB.cell (show RecB wB w1.heap.size 25 r from HB.out.get 3 rfl) 2 rfl; have kd3 : wB.cell? ⟨w1.heap.size, 3, none⟩ = some (.int .i64 r.n) := RecB.cell (show RecB wB w1.heap.size 25 r from HB.out.get 3 rfl) 3 rfl)
      | (go_at_call 20; refine (cso _).mono ?_; rintro e wC ⟨rfl, bC⟩; have HD : Hid _ := HB.out.next bC; clear bC; have kr0 : wC.cell? ⟨w5.heap.size, 0, none⟩ = some (.int .i64 p.e) := RecB.cell (show RecB wC w5.heap.size 25 p from HD.out.get 1 rfl) 0 rfl; have kr1 : wC.cell? ⟨w5.heap.size, 1, none⟩ = some (.int .i64 p.s) := RecB.cell (show RecB wC w5.heap.size 25 p from HD.out.get 1 rfl) 1 rfl; have kr2 : wC.cell? ⟨w5.heap.size, 2, none⟩ = some (.int .i64 p.t) := RecB.cell (show RecB wC w5.heap.size 25 p from HD.out.get 1 rfl) 2 rfl; have kr3 : wC.cell? ⟨w5.heap.size, 3, none⟩ = some (.int .i64 p.n) := RecB.cell (show RecB wC w5.heap.size 25 p from HD.out.get 1 rfl) 3 rfl; have ke0 : wC.cell? ⟨w1.heap.size, 0, none⟩ = some (.int .i64 r.e) := RecB.cell (show RecB wC w1.heap.size 25 r from HD.out.get 3 rfl) 0 rfl; have ke1 : wC.cell? ⟨w1.heap.size, 1, none⟩ = some (.int .i64 r.s) := RecB.cell (show RecB wC w1.heap.size 25 r from HD.out.get 3 rfl) 1 rfl; have ke2 : wC.cell? ⟨w1.heap.size, 2, none⟩ = some (.int .i64 r.t) := RecB.cell (show RecB wC w1.heap.size 25 r from HD.out.get 3 rfl) 2 rfl; have ke3 : wC.cell? ⟨w1.heap.size, 3, none⟩ = some (.int .i64 r.n) := RecB.cell (show RecB wC w1.heap.size 25 r from HD.out.get 3 rfl) 3 rfl))
    replace HS : Hid (Sta w wC [Blk w8.heap.size 25 (recA v), Blk w5.heap.size 25 (recA p), Blk w4.heap.size 25 (recA q), Blk w1.heap.size 25 (recA r)]) := HD.out
    clear HA HB HD css cio cso
    clear ka0 ka1 ka2 ka3
    clear kb0 kb1 kb2 kb3
    clear kp0 kp1 kp2 kp3
    clear kc0 kc1 kc2 kc3
    clear kq0 kq1 kq2 kq3
    clear kd0 kd1 kd2 kd3
    clear kr0 kr1 kr2 kr3
    clear ke0 ke1 ke2 ke3
    have csr := Hcsr.out
    clear Hcsr
    go_wp2_with fail
    refine (csr _).mono ?_
    rintro e w10 ⟨rfl, b10⟩
    replace HS : Hid (Sta w w10 [Blk w8.heap.size 25 (recA v), Blk w5.heap.size 25 (recA p), Blk w4.heap.size 25 (recA q), Blk w1.heap.size 25 (recA r)]) := HS.out.next b10
    clear b10
    replace HS : Hid (Sta w (w10.alloc (.cells #[.int .i64 q.e, .int .i64 q.s, .int .i64 q.t, .int .i64 q.n] 25)) [Blk w10.heap.size 25 (recA q), Blk w8.heap.size 25 (recA v), Blk w5.heap.size 25 (recA p), Blk w4.heap.size 25 (recA q), Blk w1.heap.size 25 (recA r)]) := HS.out.box 25 (recA q)
    clear csr
    have ka0 : (w10.alloc (.cells #[.int .i64 q.e, .int .i64 q.s, .int .i64 q.t, .int .i64 q.n] 25)).cell? ⟨w4.heap.size, 0, none⟩ = some (.int .i64 q.e) := RecB.cell (show RecB (w10.alloc (.cells #[.int .i64 q.e, .int .i64 q.s, .int .i64 q.t, .int .i64 q.n] 25)) w4.heap.size 25 q from HS.out.get 3 rfl) 0 rfl
    have ka1 : (w10.alloc (.cells #[.int .i64 q.e, .int .i64 q.s, .int .i64 q.t, .int .i64 q.n] 25)).cell? ⟨w4.heap.size, 1, none⟩ = some (.int .i64 q.s) := RecB.cell (show RecB (w10.alloc (.cells #[.int .i64 q.e, .int .i64 q.s, .int .i64 q.t, .int .i64 q.n] 25)) w4.heap.size 25 q from HS.out.get 3 rfl) 1 rfl
    have ka2 : (w10.alloc (.cells #[.int .i64 q.e, .int .i64 q.s, .int .i64 q.t, .int .i64 q.n] 25)).cell? ⟨w4.heap.size, 2, none⟩ = some (.int .i64 q.t) := RecB.cell (show RecB (w10.alloc (.cells #[.int .i64 q.e, .int .i64 q.s, .int .i64 q.t, .int .i64 q.n] 25)) w4.heap.size 25 q from HS.out.get 3 rfl) 2 rfl
    have ka3 : (w10.alloc (.cells #[.int .i64 q.e, .int .i64 q.s, .int .i64 q.t, .int .i64 q.n] 25)).cell? ⟨w4.heap.size, 3, none⟩ = some (.int .i64 q.n) := RecB.cell (show RecB (w10.alloc (.cells #[.int .i64 q.e, .int .i64 q.s, .int .i64 q.t, .int .i64 q.n] 25)) w4.heap.size 25 q from HS.out.get 3 rfl) 3 rfl
    have csu := Hcsu.out
    clear Hcsu
    go_wp2_with fail
    refine (csu _).mono ?_
    rintro e w11 ⟨rfl, b11⟩
    clear ka0 ka1 ka2 ka3
    replace HS : Hid (Sta w w11 [Blk w10.heap.size 25 (recA q), Blk w8.heap.size 25 (recA v), Blk w5.heap.size 25 (recA p), Blk w4.heap.size 25 (recA q), Blk w1.heap.size 25 (recA r)]) := HS.out.next b11
    clear b11
    replace HS : Hid (Sta w (w11.alloc (.cells #[.int .i64 v.e, .int .i64 v.s, .int .i64 v.t, .int .i64 v.n] 25)) [Blk w11.heap.size 25 (recA v), Blk w10.heap.size 25 (recA q), Blk w8.heap.size 25 (recA v), Blk w5.heap.size 25 (recA p), Blk w4.heap.size 25 (recA q), Blk w1.heap.size 25 (recA r)]) := HS.out.box 25 (recA v)
    clear csu
    have ka0 : (w11.alloc (.cells #[.int .i64 v.e, .int .i64 v.s, .int .i64 v.t, .int .i64 v.n] 25)).cell? ⟨w8.heap.size, 0, none⟩ = some (.int .i64 v.e) := RecB.cell (show RecB (w11.alloc (.cells #[.int .i64 v.e, .int .i64 v.s, .int .i64 v.t, .int .i64 v.n] 25)) w8.heap.size 25 v from HS.out.get 2 rfl) 0 rfl
    have ka1 : (w11.alloc (.cells #[.int .i64 v.e, .int .i64 v.s, .int .i64 v.t, .int .i64 v.n] 25)).cell? ⟨w8.heap.size, 1, none⟩ = some (.int .i64 v.s) := RecB.cell (show RecB (w11.alloc (.cells #[.int .i64 v.e, .int .i64 v.s, .int .i64 v.t, .int .i64 v.n] 25)) w8.heap.size 25 v from HS.out.get 2 rfl) 1 rfl
    have ka2 : (w11.alloc (.cells #[.int .i64 v.e, .int .i64 v.s, .int .i64 v.t, .int .i64 v.n] 25)).cell? ⟨w8.heap.size, 2, none⟩ = some (.int .i64 v.t) := RecB.cell (show RecB (w11.alloc (.cells #[.int .i64 v.e, .int .i64 v.s, .int .i64 v.t, .int .i64 v.n] 25)) w8.heap.size 25 v from HS.out.get 2 rfl) 2 rfl
    have ka3 : (w11.alloc (.cells #[.int .i64 v.e, .int .i64 v.s, .int .i64 v.t, .int .i64 v.n] 25)).cell? ⟨w8.heap.size, 3, none⟩ = some (.int .i64 v.n) := RecB.cell (show RecB (w11.alloc (.cells #[.int .i64 v.e, .int .i64 v.s, .int .i64 v.t, .int .i64 v.n] 25)) w8.heap.size 25 v from HS.out.get 2 rfl) 3 rfl
    cases rd
    · clear HU Hciv
      by_cases hp : p.ok = true
      · obtain ⟨e1, e2, hte⟩ := HPO.out hp
        have crt := Hcrt.out
        simp only [e1, e2] at crt
        clear e1 e2 hp HPO HPN Hcrt
        go_wp2_with fail
        refine (crt _).mono ?_
        rintro e w12 ⟨rfl, b12⟩
        replace HS : Hid (Sta w w12 [Blk w11.heap.size 25 (recA v), Blk w10.heap.size 25 (recA q), Blk w8.heap.size 25 (recA v), Blk w5.heap.size 25 (recA p), Blk w4.heap.size 25 (recA q), Blk w1.heap.size 25 (recA r)]) := HS.out.next b12
        clear b12
        replace HS : Hid (Sta w (w12.alloc (.cells #[.int .i64 p.e, .int .i64 p.s, .int .i64 p.t, .int .i64 p.n] 25)) [Blk w12.heap.size 25 (recA p), Blk w11.heap.size 25 (recA v), Blk w10.heap.size 25 (recA q), Blk w8.heap.size 25 (recA v), Blk w5.heap.size 25 (recA p), Blk w4.heap.size 25 (recA q), Blk w1.heap.size 25 (recA r)]) := HS.out.box 25 (recA p)
        clear crt
        have kz0 : (w12.alloc (.cells #[.int .i64 p.e, .int .i64 p.s, .int .i64 p.t, .int .i64 p.n] 25)).cell? ⟨w5.heap.size, 0, none⟩ = some (.int .i64 p.e) := RecB.cell (show RecB (w12.alloc (.cells #[.int .i64 p.e, .int .i64 p.s, .int .i64 p.t, .int .i64 p.n] 25)) w5.heap.size 25 p from HS.out.get 4 rfl) 0 rfl
        have kz1 : (w12.alloc (.cells #[.int .i64 p.e, .int .i64 p.s, .int .i64 p.t, .int .i64 p.n] 25)).cell? ⟨w5.heap.size, 1, none⟩ = some (.int .i64 p.s) := RecB.cell (show RecB (w12.alloc (.cells #[.int .i64 p.e, .int .i64 p.s, .int .i64 p.t, .int .i64 p.n] 25)) w5.heap.size 25 p from HS.out.get 4 rfl) 1 rfl
        have kz2 : (w12.alloc (.cells #[.int .i64 p.e, .int .i64 p.s, .int .i64 p.t, .int .i64 p.n] 25)).cell? ⟨w5.heap.size, 2, none⟩ = some (.int .i64 p.t) := RecB.cell (show RecB (w12.alloc (.cells #[.int .i64 p.e, .int .i64 p.s, .int .i64 p.t, .int .i64 p.n] 25)) w5.heap.size 25 p from HS.out.get 4 rfl) 2 rfl
        have kz3 : (w12.alloc (.cells #[.int .i64 p.e, .int .i64 p.s, .int .i64 p.t, .int .i64 p.n] 25)).cell? ⟨w5.heap.size, 3, none⟩ = some (.int .i64 p.n) := RecB.cell (show RecB (w12.alloc (.cells #[.int .i64 p.e, .int .i64 p.s, .int .i64 p.t, .int .i64 p.n] 25)) w5.heap.size 25 p from HS.out.get 4 rfl) 3 rfl
        cases is
        · obtain rfl : x = log := HNO.out rfl
          go_wp2
          go_ret
          exact ⟨rfl, HS.out.below⟩
        · obtain ⟨hok, hxe⟩ := HYE.out rfl
          have cf := fun wx => sframes_any log wx (by omega)
          obtain ⟨fs, hfs⟩ : ∃ fs, fs = (framesB log).1 := ⟨_, rfl⟩
          obtain ⟨n, hn⟩ : ∃ n : Nat, n = (framesB log).2 := ⟨_, rfl⟩
          simp only [← hfs, ← hn] at cf
          rw [← hn] at HSH
          have HXE : Hid (r.ok = true ∧ x = log ++ framed (showR r) ∧ n = (framesB log).2) := ⟨hok, hxe, hn⟩
          unfold S at cf
          clear hfs hn hok hxe HNO HYE
          go_wp2_with fail
          refine (cf _).mono ?_
          rintro e w13 ⟨fv, rfl, -, b13⟩
          replace HS : Hid (Sta w w13 [Blk w12.heap.size 25 (recA p), Blk w11.heap.size 25 (recA v), Blk w10.heap.size 25 (recA q), Blk w8.heap.size 25 (recA v), Blk w5.heap.size 25 (recA p), Blk w4.heap.size 25 (recA q), Blk w1.heap.size 25 (recA r)]) := HS.out.next b13
          clear b13
          clear cf
          by_cases hnl : n = log.length
          · have hlog2 : log.length < 2000 := HSH.out hnl
            have hre := recall_noted log r [] HXE.out.1 (by rw [← HXE.out.2.2]; exact hnl) hlog2 none_nil
            rw [List.append_nil, ← HXE.out.2.1] at hre
            have cx := fun wx h => irecall_any x wx (by omega) h
            have hrr : recR (some (r, x.length)) = r := rfl
            have hra : x.take (recAt (some (r, x.length))) = x := List.take_length
            have hrs : (some (r, x.length)).isSome = true := rfl
            simp only [hre, hrr, hra, hrs] at cx
            have hfl := framed_show_len r HXE.out.1
            have hfp := framed_pos (showR r)
            have hxl2 : x.length = log.length + (framed (showR r)).length := by rw [HXE.out.2.1, List.length_append]
            have hex := extract_cut x log.length x.length
            have e1 : cutB x log.length x.length = framed (showR r) := by rw [HXE.out.2.1, cutB, List.take_of_length_le (Nat.le_refl _), List.drop_left]
            rw [e1] at hex
            have HH : Hid (∀ p : Nat, p < (framed (showR r)).length → recallB (x ++ (framed (showR r)).take p) = some (r, x.length)) := by
              intro p hp
              have := recall_noted log r ((framed (showR r)).take p) HXE.out.1 (by rw [← HXE.out.2.2]; exact hnl) hlog2 (half_none r p HXE.out.1 hp)
              rwa [← HXE.out.2.1] at this
            obtain ⟨f, hf⟩ : ∃ f, f = framed (showR r) := ⟨_, rfl⟩
            rw [← hf] at hfl hfp hxl2 hex HH
            have hxz : (⟨x.toArray⟩ : ByteArray).size = x.length := rfl
            have hfz : (⟨f.toArray⟩ : ByteArray).size = f.length := rfl
            have hlx : (log.length : Int) ≤ (x.length : Int) := by omega
            unfold S RV recA at cx
            clear hf e1 hre hrr hra hrs hxl2
            have hnn : (n : Int) = (log.length : Int) := by omega
            go_wp2_with fail
            refine (cx _ (HP.out.below HS.out.below)).mono ?_
            rintro e w14 ⟨rfl, b14⟩
            replace HS : Hid (Sta w w14 [Blk w12.heap.size 25 (recA p), Blk w11.heap.size 25 (recA v), Blk w10.heap.size 25 (recA q), Blk w8.heap.size 25 (recA v), Blk w5.heap.size 25 (recA p), Blk w4.heap.size 25 (recA q), Blk w1.heap.size 25 (recA r)]) := HS.out.next b14
            clear b14
            replace HS : Hid (Sta w (w14.alloc (.cells #[.int .i64 r.e, .int .i64 r.s, .int .i64 r.t, .int .i64 r.n] 25)) [Blk w14.heap.size 25 (recA r), Blk w12.heap.size 25 (recA p), Blk w11.heap.size 25 (recA v), Blk w10.heap.size 25 (recA q), Blk w8.heap.size 25 (recA v), Blk w5.heap.size 25 (recA p), Blk w4.heap.size 25 (recA q), Blk w1.heap.size 25 (recA r)]) := HS.out.box 25 (recA r)
            clear cx
            go_wp2_with fail
            refine (pick_any w.heap.size _ _ _ (HC.out.below HS.out.below) (by omega) (by omega)).mono ?_
            rintro e w15 ⟨pk, rfl, hp0, hp1, n15, hw15⟩
            replace HS : Hid (Sta w w15 [Blk w14.heap.size 25 (recA r), Blk w12.heap.size 25 (recA p), Blk w11.heap.size 25 (recA v), Blk w10.heap.size 25 (recA q), Blk w8.heap.size 25 (recA v), Blk w5.heap.size 25 (recA p), Blk w4.heap.size 25 (recA q), Blk w1.heap.size 25 (recA r)]) := HS.out.drew hw15
            clear hw15
            obtain ⟨pn, rfl⟩ : ∃ pn : Nat, pk = pn := ⟨pk.toNat, by omega⟩
            have hre := HH.out pn (by omega)
            have hex2 := extract_cut f 0 pn
            have e2 : cutB f 0 pn = f.take pn := by simp [cutB]
            rw [e2] at hex2
            have hap := app x (f.take pn)
            have htl : (f.take pn).length ≤ 100 := by simp; omega
            have cy := fun wx h => irecall_any (x ++ f.take pn) wx (by rw [List.length_append]; omega) h
            have hrr : recR (some (r, x.length)) = r := rfl
            have hrs : (some (r, x.length)).isSome = true := rfl
            simp only [hre, hrr, hrs] at cy
            obtain ⟨zt, hzt⟩ : ∃ zt, zt = (x ++ f.take pn).take (recAt (some (r, x.length))) := ⟨_, rfl⟩
            simp only [← hzt] at cy
            obtain ⟨y2, hy2⟩ : ∃ y2, y2 = x ++ f.take pn := ⟨_, rfl⟩
            simp only [← hy2] at cy
            rw [← hy2] at hap
            obtain ⟨f2, hf2⟩ : ∃ f2, f2 = f.take pn := ⟨_, rfl⟩
            rw [← hf2] at hex2 hap htl
            have hf2z : (⟨f2.toArray⟩ : ByteArray).size = f2.length := rfl
            unfold S RV recA at cy
            clear hzt hy2 hf2 e2 hre hrr hrs HH
            go_wp2_with fail
            refine (cy _ (HP.out.below HS.out.below)).mono ?_
            rintro e w16 ⟨rfl, b16⟩
            replace HS : Hid (Sta w w16 [Blk w14.heap.size 25 (recA r), Blk w12.heap.size 25 (recA p), Blk w11.heap.size 25 (recA v), Blk w10.heap.size 25 (recA q), Blk w8.heap.size 25 (recA v), Blk w5.heap.size 25 (recA p), Blk w4.heap.size 25 (recA q), Blk w1.heap.size 25 (recA r)]) := HS.out.next b16
            clear b16
            replace HS : Hid (Sta w (w16.alloc (.cells #[.int .i64 r.e, .int .i64 r.s, .int .i64 r.t, .int .i64 r.n] 25)) [Blk w16.heap.size 25 (recA r), Blk w14.heap.size 25 (recA r), Blk w12.heap.size 25 (recA p), Blk w11.heap.size 25 (recA v), Blk w10.heap.size 25 (recA q), Blk w8.heap.size 25 (recA v), Blk w5.heap.size 25 (recA p), Blk w4.heap.size 25 (recA q), Blk w1.heap.size 25 (recA r)]) := HS.out.box 25 (recA r)
            clear cy
            have kx0 : (w16.alloc (.cells #[.int .i64 r.e, .int .i64 r.s, .int .i64 r.t, .int .i64 r.n] 25)).cell? ⟨w14.heap.size, 0, none⟩ = some (.int .i64 r.e) := RecB.cell (show RecB (w16.alloc (.cells #[.int .i64 r.e, .int .i64 r.s, .int .i64 r.t, .int .i64 r.n] 25)) w14.heap.size 25 r from HS.out.get 1 rfl) 0 rfl
            have kx1 : (w16.alloc (.cells #[.int .i64 r.e, .int .i64 r.s, .int .i64 r.t, .int .i64 r.n] 25)).cell? ⟨w14.heap.size, 1, none⟩ = some (.int .i64 r.s) := RecB.cell (show RecB (w16.alloc (.cells #[.int .i64 r.e, .int .i64 r.s, .int .i64 r.t, .int .i64 r.n] 25)) w14.heap.size 25 r from HS.out.get 1 rfl) 1 rfl
            have kx2 : (w16.alloc (.cells #[.int .i64 r.e, .int .i64 r.s, .int .i64 r.t, .int .i64 r.n] 25)).cell? ⟨w14.heap.size, 2, none⟩ = some (.int .i64 r.t) := RecB.cell (show RecB (w16.alloc (.cells #[.int .i64 r.e, .int .i64 r.s, .int .i64 r.t, .int .i64 r.n] 25)) w14.heap.size 25 r from HS.out.get 1 rfl) 2 rfl
            have kx3 : (w16.alloc (.cells #[.int .i64 r.e, .int .i64 r.s, .int .i64 r.t, .int .i64 r.n] 25)).cell? ⟨w14.heap.size, 3, none⟩ = some (.int .i64 r.n) := RecB.cell (show RecB (w16.alloc (.cells #[.int .i64 r.e, .int .i64 r.s, .int .i64 r.t, .int .i64 r.n] 25)) w14.heap.size 25 r from HS.out.get 1 rfl) 3 rfl
            have ky0 : (w16.alloc (.cells #[.int .i64 r.e, .int .i64 r.s, .int .i64 r.t, .int .i64 r.n] 25)).cell? ⟨w1.heap.size, 0, none⟩ = some (.int .i64 r.e) := RecB.cell (show RecB (w16.alloc (.cells #[.int .i64 r.e, .int .i64 r.s, .int .i64 r.t, .int .i64 r.n] 25)) w1.heap.size 25 r from HS.out.get 8 rfl) 0 rfl
            have ky1 : (w16.alloc (.cells #[.int .i64 r.e, .int .i64 r.s, .int .i64 r.t, .int .i64 r.n] 25)).cell? ⟨w1.heap.size, 1, none⟩ = some (.int .i64 r.s) := RecB.cell (show RecB (w16.alloc (.cells #[.int .i64 r.e, .int .i64 r.s, .int .i64 r.t, .int .i64 r.n] 25)) w1.heap.size 25 r from HS.out.get 8 rfl) 1 rfl
            have ky2 : (w16.alloc (.cells #[.int .i64 r.e, .int .i64 r.s, .int .i64 r.t, .int .i64 r.n] 25)).cell? ⟨w1.heap.size, 2, none⟩ = some (.int .i64 r.t) := RecB.cell (show RecB (w16.alloc (.cells #[.int .i64 r.e, .int .i64 r.s, .int .i64 r.t, .int .i64 r.n] 25)) w1.heap.size 25 r from HS.out.get 8 rfl) 2 rfl
            have ky3 : (w16.alloc (.cells #[.int .i64 r.e, .int .i64 r.s, .int .i64 r.t, .int .i64 r.n] 25)).cell? ⟨w1.heap.size, 3, none⟩ = some (.int .i64 r.n) := RecB.cell (show RecB (w16.alloc (.cells #[.int .i64 r.e, .int .i64 r.s, .int .i64 r.t, .int .i64 r.n] 25)) w1.heap.size 25 r from HS.out.get 8 rfl) 3 rfl
            go_wp2
            go_ret
            exact ⟨rfl, HS.out.below⟩
          · have hnn : ((n : Int) != (log.length : Int)) = true := by simp; omega
            go_wp2
            go_ret
            exact ⟨rfl, HS.out.below⟩
      · have hp' : p.ok = false := by simpa using hp
        obtain rfl : t = [] := HPN.out hp'
        have crt := Hcrt.out
        obtain ⟨z0, hz0⟩ : ∃ z0, z0 = recO ([] : Bs) := ⟨_, rfl⟩
        obtain ⟨b0, hb0⟩ : ∃ b0, b0 = isR ([] : Bs) := ⟨_, rfl⟩
        simp only [← hz0, ← hb0] at crt
        clear hp hp' HPO HPN Hcrt hz0 hb0
        go_wp2_with fail
        refine (crt _).mono ?_
        rintro e w12 ⟨rfl, b12⟩
        replace HS : Hid (Sta w w12 [Blk w11.heap.size 25 (recA v), Blk w10.heap.size 25 (recA q), Blk w8.heap.size 25 (recA v), Blk w5.heap.size 25 (recA p), Blk w4.heap.size 25 (recA q), Blk w1.heap.size 25 (recA r)]) := HS.out.next b12
        clear b12
        replace HS : Hid (Sta w (w12.alloc (.cells #[.int .i64 z0.e, .int .i64 z0.s, .int .i64 z0.t, .int .i64 z0.n] 25)) [Blk w12.heap.size 25 (recA z0), Blk w11.heap.size 25 (recA v), Blk w10.heap.size 25 (recA q), Blk w8.heap.size 25 (recA v), Blk w5.heap.size 25 (recA p), Blk w4.heap.size 25 (recA q), Blk w1.heap.size 25 (recA r)]) := HS.out.box 25 (recA z0)
        clear crt
        cases is
        · obtain rfl : x = log := HNO.out rfl
          go_wp2
          go_ret
          exact ⟨rfl, HS.out.below⟩
        · obtain ⟨hok, hxe⟩ := HYE.out rfl
          have cf := fun wx => sframes_any log wx (by omega)
          obtain ⟨fs, hfs⟩ : ∃ fs, fs = (framesB log).1 := ⟨_, rfl⟩
          obtain ⟨n, hn⟩ : ∃ n : Nat, n = (framesB log).2 := ⟨_, rfl⟩
          simp only [← hfs, ← hn] at cf
          rw [← hn] at HSH
          have HXE : Hid (r.ok = true ∧ x = log ++ framed (showR r) ∧ n = (framesB log).2) := ⟨hok, hxe, hn⟩
          unfold S at cf
          clear hfs hn hok hxe HNO HYE
          go_wp2_with fail
          refine (cf _).mono ?_
          rintro e w13 ⟨fv, rfl, -, b13⟩
          replace HS : Hid (Sta w w13 [Blk w12.heap.size 25 (recA z0), Blk w11.heap.size 25 (recA v), Blk w10.heap.size 25 (recA q), Blk w8.heap.size 25 (recA v), Blk w5.heap.size 25 (recA p), Blk w4.heap.size 25 (recA q), Blk w1.heap.size 25 (recA r)]) := HS.out.next b13
          clear b13
          clear cf
          by_cases hnl : n = log.length
          · have hlog2 : log.length < 2000 := HSH.out hnl
            have hre := recall_noted log r [] HXE.out.1 (by rw [← HXE.out.2.2]; exact hnl) hlog2 none_nil
            rw [List.append_nil, ← HXE.out.2.1] at hre
            have cx := fun wx h => irecall_any x wx (by omega) h
            have hrr : recR (some (r, x.length)) = r := rfl
            have hra : x.take (recAt (some (r, x.length))) = x := List.take_length
            have hrs : (some (r, x.length)).isSome = true := rfl
            simp only [hre, hrr, hra, hrs] at cx
            have hfl := framed_show_len r HXE.out.1
            have hfp := framed_pos (showR r)
            have hxl2 : x.length = log.length + (framed (showR r)).length := by rw [HXE.out.2.1, List.length_append]
            have hex := extract_cut x log.length x.length
            have e1 : cutB x log.length x.length = framed (showR r) := by rw [HXE.out.2.1, cutB, List.take_of_length_le (Nat.le_refl _), List.drop_left]
            rw [e1] at hex
            have HH : Hid (∀ p : Nat, p < (framed (showR r)).length → recallB (x ++ (framed (showR r)).take p) = some (r, x.length)) := by
              intro p hp
              have := recall_noted log r ((framed (showR r)).take p) HXE.out.1 (by rw [← HXE.out.2.2]; exact hnl) hlog2 (half_none r p HXE.out.1 hp)
              rwa [← HXE.out.2.1] at this
            obtain ⟨f, hf⟩ : ∃ f, f = framed (showR r) := ⟨_, rfl⟩
            rw [← hf] at hfl hfp hxl2 hex HH
            have hxz : (⟨x.toArray⟩ : ByteArray).size = x.length := rfl
            have hfz : (⟨f.toArray⟩ : ByteArray).size = f.length := rfl
            have hlx : (log.length : Int) ≤ (x.length : Int) := by omega
            unfold S RV recA at cx
            clear hf e1 hre hrr hra hrs hxl2
            have hnn : (n : Int) = (log.length : Int) := by omega
            go_wp2_with fail
            refine (cx _ (HP.out.below HS.out.below)).mono ?_
            rintro e w14 ⟨rfl, b14⟩
            replace HS : Hid (Sta w w14 [Blk w12.heap.size 25 (recA z0), Blk w11.heap.size 25 (recA v), Blk w10.heap.size 25 (recA q), Blk w8.heap.size 25 (recA v), Blk w5.heap.size 25 (recA p), Blk w4.heap.size 25 (recA q), Blk w1.heap.size 25 (recA r)]) := HS.out.next b14
            clear b14
            replace HS : Hid (Sta w (w14.alloc (.cells #[.int .i64 r.e, .int .i64 r.s, .int .i64 r.t, .int .i64 r.n] 25)) [Blk w14.heap.size 25 (recA r), Blk w12.heap.size 25 (recA z0), Blk w11.heap.size 25 (recA v), Blk w10.heap.size 25 (recA q), Blk w8.heap.size 25 (recA v), Blk w5.heap.size 25 (recA p), Blk w4.heap.size 25 (recA q), Blk w1.heap.size 25 (recA r)]) := HS.out.box 25 (recA r)
            clear cx
            go_wp2_with fail
            refine (pick_any w.heap.size _ _ _ (HC.out.below HS.out.below) (by omega) (by omega)).mono ?_
            rintro e w15 ⟨pk, rfl, hp0, hp1, n15, hw15⟩
            replace HS : Hid (Sta w w15 [Blk w14.heap.size 25 (recA r), Blk w12.heap.size 25 (recA z0), Blk w11.heap.size 25 (recA v), Blk w10.heap.size 25 (recA q), Blk w8.heap.size 25 (recA v), Blk w5.heap.size 25 (recA p), Blk w4.heap.size 25 (recA q), Blk w1.heap.size 25 (recA r)]) := HS.out.drew hw15
            clear hw15
            obtain ⟨pn, rfl⟩ : ∃ pn : Nat, pk = pn := ⟨pk.toNat, by omega⟩
            have hre := HH.out pn (by omega)
            have hex2 := extract_cut f 0 pn
            have e2 : cutB f 0 pn = f.take pn := by simp [cutB]
            rw [e2] at hex2
            have hap := app x (f.take pn)
            have htl : (f.take pn).length ≤ 100 := by simp; omega
            have cy := fun wx h => irecall_any (x ++ f.take pn) wx (by rw [List.length_append]; omega) h
            have hrr : recR (some (r, x.length)) = r := rfl
            have hrs : (some (r, x.length)).isSome = true := rfl
            simp only [hre, hrr, hrs] at cy
            obtain ⟨zt, hzt⟩ : ∃ zt, zt = (x ++ f.take pn).take (recAt (some (r, x.length))) := ⟨_, rfl⟩
            simp only [← hzt] at cy
            obtain ⟨y2, hy2⟩ : ∃ y2, y2 = x ++ f.take pn := ⟨_, rfl⟩
            simp only [← hy2] at cy
            rw [← hy2] at hap
            obtain ⟨f2, hf2⟩ : ∃ f2, f2 = f.take pn := ⟨_, rfl⟩
            rw [← hf2] at hex2 hap htl
            have hf2z : (⟨f2.toArray⟩ : ByteArray).size = f2.length := rfl
            unfold S RV recA at cy
            clear hzt hy2 hf2 e2 hre hrr hrs HH
            go_wp2_with fail
            refine (cy _ (HP.out.below HS.out.below)).mono ?_
            rintro e w16 ⟨rfl, b16⟩
            replace HS : Hid (Sta w w16 [Blk w14.heap.size 25 (recA r), Blk w12.heap.size 25 (recA z0), Blk w11.heap.size 25 (recA v), Blk w10.heap.size 25 (recA q), Blk w8.heap.size 25 (recA v), Blk w5.heap.size 25 (recA p), Blk w4.heap.size 25 (recA q), Blk w1.heap.size 25 (recA r)]) := HS.out.next b16
            clear b16
            replace HS : Hid (Sta w (w16.alloc (.cells #[.int .i64 r.e, .int .i64 r.s, .int .i64 r.t, .int .i64 r.n] 25)) [Blk w16.heap.size 25 (recA r), Blk w14.heap.size 25 (recA r), Blk w12.heap.size 25 (recA z0), Blk w11.heap.size 25 (recA v), Blk w10.heap.size 25 (recA q), Blk w8.heap.size 25 (recA v), Blk w5.heap.size 25 (recA p), Blk w4.heap.size 25 (recA q), Blk w1.heap.size 25 (recA r)]) := HS.out.box 25 (recA r)
            clear cy
            have kx0 : (w16.alloc (.cells #[.int .i64 r.e, .int .i64 r.s, .int .i64 r.t, .int .i64 r.n] 25)).cell? ⟨w14.heap.size, 0, none⟩ = some (.int .i64 r.e) := RecB.cell (show RecB (w16.alloc (.cells #[.int .i64 r.e, .int .i64 r.s, .int .i64 r.t, .int .i64 r.n] 25)) w14.heap.size 25 r from HS.out.get 1 rfl) 0 rfl
            have kx1 : (w16.alloc (.cells #[.int .i64 r.e, .int .i64 r.s, .int .i64 r.t, .int .i64 r.n] 25)).cell? ⟨w14.heap.size, 1, none⟩ = some (.int .i64 r.s) := RecB.cell (show RecB (w16.alloc (.cells #[.int .i64 r.e, .int .i64 r.s, .int .i64 r.t, .int .i64 r.n] 25)) w14.heap.size 25 r from HS.out.get 1 rfl) 1 rfl
            have kx2 : (w16.alloc (.cells #[.int .i64 r.e, .int .i64 r.s, .int .i64 r.t, .int .i64 r.n] 25)).cell? ⟨w14.heap.size, 2, none⟩ = some (.int .i64 r.t) := RecB.cell (show RecB (w16.alloc (.cells #[.int .i64 r.e, .int .i64 r.s, .int .i64 r.t, .int .i64 r.n] 25)) w14.heap.size 25 r from HS.out.get 1 rfl) 2 rfl
            have kx3 : (w16.alloc (.cells #[.int .i64 r.e, .int .i64 r.s, .int .i64 r.t, .int .i64 r.n] 25)).cell? ⟨w14.heap.size, 3, none⟩ = some (.int .i64 r.n) := RecB.cell (show RecB (w16.alloc (.cells #[.int .i64 r.e, .int .i64 r.s, .int .i64 r.t, .int .i64 r.n] 25)) w14.heap.size 25 r from HS.out.get 1 rfl) 3 rfl
            have ky0 : (w16.alloc (.cells #[.int .i64 r.e, .int .i64 r.s, .int .i64 r.t, .int .i64 r.n] 25)).cell? ⟨w1.heap.size, 0, none⟩ = some (.int .i64 r.e) := RecB.cell (show RecB (w16.alloc (.cells #[.int .i64 r.e, .int .i64 r.s, .int .i64 r.t, .int .i64 r.n] 25)) w1.heap.size 25 r from HS.out.get 8 rfl) 0 rfl
            have ky1 : (w16.alloc (.cells #[.int .i64 r.e, .int .i64 r.s, .int .i64 r.t, .int .i64 r.n] 25)).cell? ⟨w1.heap.size, 1, none⟩ = some (.int .i64 r.s) := RecB.cell (show RecB (w16.alloc (.cells #[.int .i64 r.e, .int .i64 r.s, .int .i64 r.t, .int .i64 r.n] 25)) w1.heap.size 25 r from HS.out.get 8 rfl) 1 rfl
            have ky2 : (w16.alloc (.cells #[.int .i64 r.e, .int .i64 r.s, .int .i64 r.t, .int .i64 r.n] 25)).cell? ⟨w1.heap.size, 2, none⟩ = some (.int .i64 r.t) := RecB.cell (show RecB (w16.alloc (.cells #[.int .i64 r.e, .int .i64 r.s, .int .i64 r.t, .int .i64 r.n] 25)) w1.heap.size 25 r from HS.out.get 8 rfl) 2 rfl
            have ky3 : (w16.alloc (.cells #[.int .i64 r.e, .int .i64 r.s, .int .i64 r.t, .int .i64 r.n] 25)).cell? ⟨w1.heap.size, 3, none⟩ = some (.int .i64 r.n) := RecB.cell (show RecB (w16.alloc (.cells #[.int .i64 r.e, .int .i64 r.s, .int .i64 r.t, .int .i64 r.n] 25)) w1.heap.size 25 r from HS.out.get 8 rfl) 3 rfl
            go_wp2
            go_ret
            exact ⟨rfl, HS.out.below⟩
          · have hnn : ((n : Int) != (log.length : Int)) = true := by simp; omega
            go_wp2
            go_ret
            exact ⟨rfl, HS.out.below⟩
    · have hsv := HU.out rfl
      have civ := Hciv.out
      rw [hsv] at civ
      unfold S RV recA at civ
      clear hsv HU Hciv
      go_wp2_with fail
      refine (civ _ (HP.out.below HS.out.below)).mono ?_
      rintro e w17 ⟨rfl, b17⟩
      clear civ
      clear ka0 ka1 ka2 ka3
      replace HS : Hid (Sta w w17 [Blk w11.heap.size 25 (recA v), Blk w10.heap.size 25 (recA q), Blk w8.heap.size 25 (recA v), Blk w5.heap.size 25 (recA p), Blk w4.heap.size 25 (recA q), Blk w1.heap.size 25 (recA r)]) := HS.out.next b17
      clear b17
      by_cases hp : p.ok = true
      · obtain ⟨e1, e2, hte⟩ := HPO.out hp
        have crt := Hcrt.out
        simp only [e1, e2] at crt
        clear e1 e2 hp HPO HPN Hcrt
        go_wp2_with fail
        refine (crt _).mono ?_
        rintro e w12 ⟨rfl, b12⟩
        replace HS : Hid (Sta w w12 [Blk w11.heap.size 25 (recA v), Blk w10.heap.size 25 (recA q), Blk w8.heap.size 25 (recA v), Blk w5.heap.size 25 (recA p), Blk w4.heap.size 25 (recA q), Blk w1.heap.size 25 (recA r)]) := HS.out.next b12
        clear b12
        replace HS : Hid (Sta w (w12.alloc (.cells #[.int .i64 p.e, .int .i64 p.s, .int .i64 p.t, .int .i64 p.n] 25)) [Blk w12.heap.size 25 (recA p), Blk w11.heap.size 25 (recA v), Blk w10.heap.size 25 (recA q), Blk w8.heap.size 25 (recA v), Blk w5.heap.size 25 (recA p), Blk w4.heap.size 25 (recA q), Blk w1.heap.size 25 (recA r)]) := HS.out.box 25 (recA p)
        clear crt
        have kz0 : (w12.alloc (.cells #[.int .i64 p.e, .int .i64 p.s, .int .i64 p.t, .int .i64 p.n] 25)).cell? ⟨w5.heap.size, 0, none⟩ = some (.int .i64 p.e) := RecB.cell (show RecB (w12.alloc (.cells #[.int .i64 p.e, .int .i64 p.s, .int .i64 p.t, .int .i64 p.n] 25)) w5.heap.size 25 p from HS.out.get 4 rfl) 0 rfl
        have kz1 : (w12.alloc (.cells #[.int .i64 p.e, .int .i64 p.s, .int .i64 p.t, .int .i64 p.n] 25)).cell? ⟨w5.heap.size, 1, none⟩ = some (.int .i64 p.s) := RecB.cell (show RecB (w12.alloc (.cells #[.int .i64 p.e, .int .i64 p.s, .int .i64 p.t, .int .i64 p.n] 25)) w5.heap.size 25 p from HS.out.get 4 rfl) 1 rfl
        have kz2 : (w12.alloc (.cells #[.int .i64 p.e, .int .i64 p.s, .int .i64 p.t, .int .i64 p.n] 25)).cell? ⟨w5.heap.size, 2, none⟩ = some (.int .i64 p.t) := RecB.cell (show RecB (w12.alloc (.cells #[.int .i64 p.e, .int .i64 p.s, .int .i64 p.t, .int .i64 p.n] 25)) w5.heap.size 25 p from HS.out.get 4 rfl) 2 rfl
        have kz3 : (w12.alloc (.cells #[.int .i64 p.e, .int .i64 p.s, .int .i64 p.t, .int .i64 p.n] 25)).cell? ⟨w5.heap.size, 3, none⟩ = some (.int .i64 p.n) := RecB.cell (show RecB (w12.alloc (.cells #[.int .i64 p.e, .int .i64 p.s, .int .i64 p.t, .int .i64 p.n] 25)) w5.heap.size 25 p from HS.out.get 4 rfl) 3 rfl
        cases is
        · obtain rfl : x = log := HNO.out rfl
          go_wp2
          go_ret
          exact ⟨rfl, HS.out.below⟩
        · obtain ⟨hok, hxe⟩ := HYE.out rfl
          have cf := fun wx => sframes_any log wx (by omega)
          obtain ⟨fs, hfs⟩ : ∃ fs, fs = (framesB log).1 := ⟨_, rfl⟩
          obtain ⟨n, hn⟩ : ∃ n : Nat, n = (framesB log).2 := ⟨_, rfl⟩
          simp only [← hfs, ← hn] at cf
          rw [← hn] at HSH
          have HXE : Hid (r.ok = true ∧ x = log ++ framed (showR r) ∧ n = (framesB log).2) := ⟨hok, hxe, hn⟩
          unfold S at cf
          clear hfs hn hok hxe HNO HYE
          go_wp2_with fail
          refine (cf _).mono ?_
          rintro e w13 ⟨fv, rfl, -, b13⟩
          replace HS : Hid (Sta w w13 [Blk w12.heap.size 25 (recA p), Blk w11.heap.size 25 (recA v), Blk w10.heap.size 25 (recA q), Blk w8.heap.size 25 (recA v), Blk w5.heap.size 25 (recA p), Blk w4.heap.size 25 (recA q), Blk w1.heap.size 25 (recA r)]) := HS.out.next b13
          clear b13
          clear cf
          by_cases hnl : n = log.length
          · have hlog2 : log.length < 2000 := HSH.out hnl
            have hre := recall_noted log r [] HXE.out.1 (by rw [← HXE.out.2.2]; exact hnl) hlog2 none_nil
            rw [List.append_nil, ← HXE.out.2.1] at hre
            have cx := fun wx h => irecall_any x wx (by omega) h
            have hrr : recR (some (r, x.length)) = r := rfl
            have hra : x.take (recAt (some (r, x.length))) = x := List.take_length
            have hrs : (some (r, x.length)).isSome = true := rfl
            simp only [hre, hrr, hra, hrs] at cx
            have hfl := framed_show_len r HXE.out.1
            have hfp := framed_pos (showR r)
            have hxl2 : x.length = log.length + (framed (showR r)).length := by rw [HXE.out.2.1, List.length_append]
            have hex := extract_cut x log.length x.length
            have e1 : cutB x log.length x.length = framed (showR r) := by rw [HXE.out.2.1, cutB, List.take_of_length_le (Nat.le_refl _), List.drop_left]
            rw [e1] at hex
            have HH : Hid (∀ p : Nat, p < (framed (showR r)).length → recallB (x ++ (framed (showR r)).take p) = some (r, x.length)) := by
              intro p hp
              have := recall_noted log r ((framed (showR r)).take p) HXE.out.1 (by rw [← HXE.out.2.2]; exact hnl) hlog2 (half_none r p HXE.out.1 hp)
              rwa [← HXE.out.2.1] at this
            obtain ⟨f, hf⟩ : ∃ f, f = framed (showR r) := ⟨_, rfl⟩
            rw [← hf] at hfl hfp hxl2 hex HH
            have hxz : (⟨x.toArray⟩ : ByteArray).size = x.length := rfl
            have hfz : (⟨f.toArray⟩ : ByteArray).size = f.length := rfl
            have hlx : (log.length : Int) ≤ (x.length : Int) := by omega
            unfold S RV recA at cx
            clear hf e1 hre hrr hra hrs hxl2
            have hnn : (n : Int) = (log.length : Int) := by omega
            go_wp2_with fail
            refine (cx _ (HP.out.below HS.out.below)).mono ?_
            rintro e w14 ⟨rfl, b14⟩
            replace HS : Hid (Sta w w14 [Blk w12.heap.size 25 (recA p), Blk w11.heap.size 25 (recA v), Blk w10.heap.size 25 (recA q), Blk w8.heap.size 25 (recA v), Blk w5.heap.size 25 (recA p), Blk w4.heap.size 25 (recA q), Blk w1.heap.size 25 (recA r)]) := HS.out.next b14
            clear b14
            replace HS : Hid (Sta w (w14.alloc (.cells #[.int .i64 r.e, .int .i64 r.s, .int .i64 r.t, .int .i64 r.n] 25)) [Blk w14.heap.size 25 (recA r), Blk w12.heap.size 25 (recA p), Blk w11.heap.size 25 (recA v), Blk w10.heap.size 25 (recA q), Blk w8.heap.size 25 (recA v), Blk w5.heap.size 25 (recA p), Blk w4.heap.size 25 (recA q), Blk w1.heap.size 25 (recA r)]) := HS.out.box 25 (recA r)
            clear cx
            go_wp2_with fail
            refine (pick_any w.heap.size _ _ _ (HC.out.below HS.out.below) (by omega) (by omega)).mono ?_
            rintro e w15 ⟨pk, rfl, hp0, hp1, n15, hw15⟩
            replace HS : Hid (Sta w w15 [Blk w14.heap.size 25 (recA r), Blk w12.heap.size 25 (recA p), Blk w11.heap.size 25 (recA v), Blk w10.heap.size 25 (recA q), Blk w8.heap.size 25 (recA v), Blk w5.heap.size 25 (recA p), Blk w4.heap.size 25 (recA q), Blk w1.heap.size 25 (recA r)]) := HS.out.drew hw15
            clear hw15
            obtain ⟨pn, rfl⟩ : ∃ pn : Nat, pk = pn := ⟨pk.toNat, by omega⟩
            have hre := HH.out pn (by omega)
            have hex2 := extract_cut f 0 pn
            have e2 : cutB f 0 pn = f.take pn := by simp [cutB]
            rw [e2] at hex2
            have hap := app x (f.take pn)
            have htl : (f.take pn).length ≤ 100 := by simp; omega
            have cy := fun wx h => irecall_any (x ++ f.take pn) wx (by rw [List.length_append]; omega) h
            have hrr : recR (some (r, x.length)) = r := rfl
            have hrs : (some (r, x.length)).isSome = true := rfl
            simp only [hre, hrr, hrs] at cy
            obtain ⟨zt, hzt⟩ : ∃ zt, zt = (x ++ f.take pn).take (recAt (some (r, x.length))) := ⟨_, rfl⟩
            simp only [← hzt] at cy
            obtain ⟨y2, hy2⟩ : ∃ y2, y2 = x ++ f.take pn := ⟨_, rfl⟩
            simp only [← hy2] at cy
            rw [← hy2] at hap
            obtain ⟨f2, hf2⟩ : ∃ f2, f2 = f.take pn := ⟨_, rfl⟩
            rw [← hf2] at hex2 hap htl
            have hf2z : (⟨f2.toArray⟩ : ByteArray).size = f2.length := rfl
            unfold S RV recA at cy
            clear hzt hy2 hf2 e2 hre hrr hrs HH
            go_wp2_with fail
            refine (cy _ (HP.out.below HS.out.below)).mono ?_
            rintro e w16 ⟨rfl, b16⟩
            replace HS : Hid (Sta w w16 [Blk w14.heap.size 25 (recA r), Blk w12.heap.size 25 (recA p), Blk w11.heap.size 25 (recA v), Blk w10.heap.size 25 (recA q), Blk w8.heap.size 25 (recA v), Blk w5.heap.size 25 (recA p), Blk w4.heap.size 25 (recA q), Blk w1.heap.size 25 (recA r)]) := HS.out.next b16
            clear b16
            replace HS : Hid (Sta w (w16.alloc (.cells #[.int .i64 r.e, .int .i64 r.s, .int .i64 r.t, .int .i64 r.n] 25)) [Blk w16.heap.size 25 (recA r), Blk w14.heap.size 25 (recA r), Blk w12.heap.size 25 (recA p), Blk w11.heap.size 25 (recA v), Blk w10.heap.size 25 (recA q), Blk w8.heap.size 25 (recA v), Blk w5.heap.size 25 (recA p), Blk w4.heap.size 25 (recA q), Blk w1.heap.size 25 (recA r)]) := HS.out.box 25 (recA r)
            clear cy
            have kx0 : (w16.alloc (.cells #[.int .i64 r.e, .int .i64 r.s, .int .i64 r.t, .int .i64 r.n] 25)).cell? ⟨w14.heap.size, 0, none⟩ = some (.int .i64 r.e) := RecB.cell (show RecB (w16.alloc (.cells #[.int .i64 r.e, .int .i64 r.s, .int .i64 r.t, .int .i64 r.n] 25)) w14.heap.size 25 r from HS.out.get 1 rfl) 0 rfl
            have kx1 : (w16.alloc (.cells #[.int .i64 r.e, .int .i64 r.s, .int .i64 r.t, .int .i64 r.n] 25)).cell? ⟨w14.heap.size, 1, none⟩ = some (.int .i64 r.s) := RecB.cell (show RecB (w16.alloc (.cells #[.int .i64 r.e, .int .i64 r.s, .int .i64 r.t, .int .i64 r.n] 25)) w14.heap.size 25 r from HS.out.get 1 rfl) 1 rfl
            have kx2 : (w16.alloc (.cells #[.int .i64 r.e, .int .i64 r.s, .int .i64 r.t, .int .i64 r.n] 25)).cell? ⟨w14.heap.size, 2, none⟩ = some (.int .i64 r.t) := RecB.cell (show RecB (w16.alloc (.cells #[.int .i64 r.e, .int .i64 r.s, .int .i64 r.t, .int .i64 r.n] 25)) w14.heap.size 25 r from HS.out.get 1 rfl) 2 rfl
            have kx3 : (w16.alloc (.cells #[.int .i64 r.e, .int .i64 r.s, .int .i64 r.t, .int .i64 r.n] 25)).cell? ⟨w14.heap.size, 3, none⟩ = some (.int .i64 r.n) := RecB.cell (show RecB (w16.alloc (.cells #[.int .i64 r.e, .int .i64 r.s, .int .i64 r.t, .int .i64 r.n] 25)) w14.heap.size 25 r from HS.out.get 1 rfl) 3 rfl
            have ky0 : (w16.alloc (.cells #[.int .i64 r.e, .int .i64 r.s, .int .i64 r.t, .int .i64 r.n] 25)).cell? ⟨w1.heap.size, 0, none⟩ = some (.int .i64 r.e) := RecB.cell (show RecB (w16.alloc (.cells #[.int .i64 r.e, .int .i64 r.s, .int .i64 r.t, .int .i64 r.n] 25)) w1.heap.size 25 r from HS.out.get 8 rfl) 0 rfl
            have ky1 : (w16.alloc (.cells #[.int .i64 r.e, .int .i64 r.s, .int .i64 r.t, .int .i64 r.n] 25)).cell? ⟨w1.heap.size, 1, none⟩ = some (.int .i64 r.s) := RecB.cell (show RecB (w16.alloc (.cells #[.int .i64 r.e, .int .i64 r.s, .int .i64 r.t, .int .i64 r.n] 25)) w1.heap.size 25 r from HS.out.get 8 rfl) 1 rfl
            have ky2 : (w16.alloc (.cells #[.int .i64 r.e, .int .i64 r.s, .int .i64 r.t, .int .i64 r.n] 25)).cell? ⟨w1.heap.size, 2, none⟩ = some (.int .i64 r.t) := RecB.cell (show RecB (w16.alloc (.cells #[.int .i64 r.e, .int .i64 r.s, .int .i64 r.t, .int .i64 r.n] 25)) w1.heap.size 25 r from HS.out.get 8 rfl) 2 rfl
            have ky3 : (w16.alloc (.cells #[.int .i64 r.e, .int .i64 r.s, .int .i64 r.t, .int .i64 r.n] 25)).cell? ⟨w1.heap.size, 3, none⟩ = some (.int .i64 r.n) := RecB.cell (show RecB (w16.alloc (.cells #[.int .i64 r.e, .int .i64 r.s, .int .i64 r.t, .int .i64 r.n] 25)) w1.heap.size 25 r from HS.out.get 8 rfl) 3 rfl
            go_wp2
            go_ret
            exact ⟨rfl, HS.out.below⟩
          · have hnn : ((n : Int) != (log.length : Int)) = true := by simp; omega
            go_wp2
            go_ret
            exact ⟨rfl, HS.out.below⟩
      · have hp' : p.ok = false := by simpa using hp
        obtain rfl : t = [] := HPN.out hp'
        have crt := Hcrt.out
        obtain ⟨z0, hz0⟩ : ∃ z0, z0 = recO ([] : Bs) := ⟨_, rfl⟩
        obtain ⟨b0, hb0⟩ : ∃ b0, b0 = isR ([] : Bs) := ⟨_, rfl⟩
        simp only [← hz0, ← hb0] at crt
        clear hp hp' HPO HPN Hcrt hz0 hb0
        go_wp2_with fail
        refine (crt _).mono ?_
        rintro e w12 ⟨rfl, b12⟩
        replace HS : Hid (Sta w w12 [Blk w11.heap.size 25 (recA v), Blk w10.heap.size 25 (recA q), Blk w8.heap.size 25 (recA v), Blk w5.heap.size 25 (recA p), Blk w4.heap.size 25 (recA q), Blk w1.heap.size 25 (recA r)]) := HS.out.next b12
        clear b12
        replace HS : Hid (Sta w (w12.alloc (.cells #[.int .i64 z0.e, .int .i64 z0.s, .int .i64 z0.t, .int .i64 z0.n] 25)) [Blk w12.heap.size 25 (recA z0), Blk w11.heap.size 25 (recA v), Blk w10.heap.size 25 (recA q), Blk w8.heap.size 25 (recA v), Blk w5.heap.size 25 (recA p), Blk w4.heap.size 25 (recA q), Blk w1.heap.size 25 (recA r)]) := HS.out.box 25 (recA z0)
        clear crt
        cases is
        · obtain rfl : x = log := HNO.out rfl
          go_wp2
          go_ret
          exact ⟨rfl, HS.out.below⟩
        · obtain ⟨hok, hxe⟩ := HYE.out rfl
          have cf := fun wx => sframes_any log wx (by omega)
          obtain ⟨fs, hfs⟩ : ∃ fs, fs = (framesB log).1 := ⟨_, rfl⟩
          obtain ⟨n, hn⟩ : ∃ n : Nat, n = (framesB log).2 := ⟨_, rfl⟩
          simp only [← hfs, ← hn] at cf
          rw [← hn] at HSH
          have HXE : Hid (r.ok = true ∧ x = log ++ framed (showR r) ∧ n = (framesB log).2) := ⟨hok, hxe, hn⟩
          unfold S at cf
          clear hfs hn hok hxe HNO HYE
          go_wp2_with fail
          refine (cf _).mono ?_
          rintro e w13 ⟨fv, rfl, -, b13⟩
          replace HS : Hid (Sta w w13 [Blk w12.heap.size 25 (recA z0), Blk w11.heap.size 25 (recA v), Blk w10.heap.size 25 (recA q), Blk w8.heap.size 25 (recA v), Blk w5.heap.size 25 (recA p), Blk w4.heap.size 25 (recA q), Blk w1.heap.size 25 (recA r)]) := HS.out.next b13
          clear b13
          clear cf
          by_cases hnl : n = log.length
          · have hlog2 : log.length < 2000 := HSH.out hnl
            have hre := recall_noted log r [] HXE.out.1 (by rw [← HXE.out.2.2]; exact hnl) hlog2 none_nil
            rw [List.append_nil, ← HXE.out.2.1] at hre
            have cx := fun wx h => irecall_any x wx (by omega) h
            have hrr : recR (some (r, x.length)) = r := rfl
            have hra : x.take (recAt (some (r, x.length))) = x := List.take_length
            have hrs : (some (r, x.length)).isSome = true := rfl
            simp only [hre, hrr, hra, hrs] at cx
            have hfl := framed_show_len r HXE.out.1
            have hfp := framed_pos (showR r)
            have hxl2 : x.length = log.length + (framed (showR r)).length := by rw [HXE.out.2.1, List.length_append]
            have hex := extract_cut x log.length x.length
            have e1 : cutB x log.length x.length = framed (showR r) := by rw [HXE.out.2.1, cutB, List.take_of_length_le (Nat.le_refl _), List.drop_left]
            rw [e1] at hex
            have HH : Hid (∀ p : Nat, p < (framed (showR r)).length → recallB (x ++ (framed (showR r)).take p) = some (r, x.length)) := by
              intro p hp
              have := recall_noted log r ((framed (showR r)).take p) HXE.out.1 (by rw [← HXE.out.2.2]; exact hnl) hlog2 (half_none r p HXE.out.1 hp)
              rwa [← HXE.out.2.1] at this
            obtain ⟨f, hf⟩ : ∃ f, f = framed (showR r) := ⟨_, rfl⟩
            rw [← hf] at hfl hfp hxl2 hex HH
            have hxz : (⟨x.toArray⟩ : ByteArray).size = x.length := rfl
            have hfz : (⟨f.toArray⟩ : ByteArray).size = f.length := rfl
            have hlx : (log.length : Int) ≤ (x.length : Int) := by omega
            unfold S RV recA at cx
            clear hf e1 hre hrr hra hrs hxl2
            have hnn : (n : Int) = (log.length : Int) := by omega
            go_wp2_with fail
            refine (cx _ (HP.out.below HS.out.below)).mono ?_
            rintro e w14 ⟨rfl, b14⟩
            replace HS : Hid (Sta w w14 [Blk w12.heap.size 25 (recA z0), Blk w11.heap.size 25 (recA v), Blk w10.heap.size 25 (recA q), Blk w8.heap.size 25 (recA v), Blk w5.heap.size 25 (recA p), Blk w4.heap.size 25 (recA q), Blk w1.heap.size 25 (recA r)]) := HS.out.next b14
            clear b14
            replace HS : Hid (Sta w (w14.alloc (.cells #[.int .i64 r.e, .int .i64 r.s, .int .i64 r.t, .int .i64 r.n] 25)) [Blk w14.heap.size 25 (recA r), Blk w12.heap.size 25 (recA z0), Blk w11.heap.size 25 (recA v), Blk w10.heap.size 25 (recA q), Blk w8.heap.size 25 (recA v), Blk w5.heap.size 25 (recA p), Blk w4.heap.size 25 (recA q), Blk w1.heap.size 25 (recA r)]) := HS.out.box 25 (recA r)
            clear cx
            go_wp2_with fail
            refine (pick_any w.heap.size _ _ _ (HC.out.below HS.out.below) (by omega) (by omega)).mono ?_
            rintro e w15 ⟨pk, rfl, hp0, hp1, n15, hw15⟩
            replace HS : Hid (Sta w w15 [Blk w14.heap.size 25 (recA r), Blk w12.heap.size 25 (recA z0), Blk w11.heap.size 25 (recA v), Blk w10.heap.size 25 (recA q), Blk w8.heap.size 25 (recA v), Blk w5.heap.size 25 (recA p), Blk w4.heap.size 25 (recA q), Blk w1.heap.size 25 (recA r)]) := HS.out.drew hw15
            clear hw15
            obtain ⟨pn, rfl⟩ : ∃ pn : Nat, pk = pn := ⟨pk.toNat, by omega⟩
            have hre := HH.out pn (by omega)
            have hex2 := extract_cut f 0 pn
            have e2 : cutB f 0 pn = f.take pn := by simp [cutB]
            rw [e2] at hex2
            have hap := app x (f.take pn)
            have htl : (f.take pn).length ≤ 100 := by simp; omega
            have cy := fun wx h => irecall_any (x ++ f.take pn) wx (by rw [List.length_append]; omega) h
            have hrr : recR (some (r, x.length)) = r := rfl
            have hrs : (some (r, x.length)).isSome = true := rfl
            simp only [hre, hrr, hrs] at cy
            obtain ⟨zt, hzt⟩ : ∃ zt, zt = (x ++ f.take pn).take (recAt (some (r, x.length))) := ⟨_, rfl⟩
            simp only [← hzt] at cy
            obtain ⟨y2, hy2⟩ : ∃ y2, y2 = x ++ f.take pn := ⟨_, rfl⟩
            simp only [← hy2] at cy
            rw [← hy2] at hap
            obtain ⟨f2, hf2⟩ : ∃ f2, f2 = f.take pn := ⟨_, rfl⟩
            rw [← hf2] at hex2 hap htl
            have hf2z : (⟨f2.toArray⟩ : ByteArray).size = f2.length := rfl
            unfold S RV recA at cy
            clear hzt hy2 hf2 e2 hre hrr hrs HH
            go_wp2_with fail
            refine (cy _ (HP.out.below HS.out.below)).mono ?_
            rintro e w16 ⟨rfl, b16⟩
            replace HS : Hid (Sta w w16 [Blk w14.heap.size 25 (recA r), Blk w12.heap.size 25 (recA z0), Blk w11.heap.size 25 (recA v), Blk w10.heap.size 25 (recA q), Blk w8.heap.size 25 (recA v), Blk w5.heap.size 25 (recA p), Blk w4.heap.size 25 (recA q), Blk w1.heap.size 25 (recA r)]) := HS.out.next b16
            clear b16
            replace HS : Hid (Sta w (w16.alloc (.cells #[.int .i64 r.e, .int .i64 r.s, .int .i64 r.t, .int .i64 r.n] 25)) [Blk w16.heap.size 25 (recA r), Blk w14.heap.size 25 (recA r), Blk w12.heap.size 25 (recA z0), Blk w11.heap.size 25 (recA v), Blk w10.heap.size 25 (recA q), Blk w8.heap.size 25 (recA v), Blk w5.heap.size 25 (recA p), Blk w4.heap.size 25 (recA q), Blk w1.heap.size 25 (recA r)]) := HS.out.box 25 (recA r)
            clear cy
            have kx0 : (w16.alloc (.cells #[.int .i64 r.e, .int .i64 r.s, .int .i64 r.t, .int .i64 r.n] 25)).cell? ⟨w14.heap.size, 0, none⟩ = some (.int .i64 r.e) := RecB.cell (show RecB (w16.alloc (.cells #[.int .i64 r.e, .int .i64 r.s, .int .i64 r.t, .int .i64 r.n] 25)) w14.heap.size 25 r from HS.out.get 1 rfl) 0 rfl
            have kx1 : (w16.alloc (.cells #[.int .i64 r.e, .int .i64 r.s, .int .i64 r.t, .int .i64 r.n] 25)).cell? ⟨w14.heap.size, 1, none⟩ = some (.int .i64 r.s) := RecB.cell (show RecB (w16.alloc (.cells #[.int .i64 r.e, .int .i64 r.s, .int .i64 r.t, .int .i64 r.n] 25)) w14.heap.size 25 r from HS.out.get 1 rfl) 1 rfl
            have kx2 : (w16.alloc (.cells #[.int .i64 r.e, .int .i64 r.s, .int .i64 r.t, .int .i64 r.n] 25)).cell? ⟨w14.heap.size, 2, none⟩ = some (.int .i64 r.t) := RecB.cell (show RecB (w16.alloc (.cells #[.int .i64 r.e, .int .i64 r.s, .int .i64 r.t, .int .i64 r.n] 25)) w14.heap.size 25 r from HS.out.get 1 rfl) 2 rfl
            have kx3 : (w16.alloc (.cells #[.int .i64 r.e, .int .i64 r.s, .int .i64 r.t, .int .i64 r.n] 25)).cell? ⟨w14.heap.size, 3, none⟩ = some (.int .i64 r.n) := RecB.cell (show RecB (w16.alloc (.cells #[.int .i64 r.e, .int .i64 r.s, .int .i64 r.t, .int .i64 r.n] 25)) w14.heap.size 25 r from HS.out.get 1 rfl) 3 rfl
            have ky0 : (w16.alloc (.cells #[.int .i64 r.e, .int .i64 r.s, .int .i64 r.t, .int .i64 r.n] 25)).cell? ⟨w1.heap.size, 0, none⟩ = some (.int .i64 r.e) := RecB.cell (show RecB (w16.alloc (.cells #[.int .i64 r.e, .int .i64 r.s, .int .i64 r.t, .int .i64 r.n] 25)) w1.heap.size 25 r from HS.out.get 8 rfl) 0 rfl
            have ky1 : (w16.alloc (.cells #[.int .i64 r.e, .int .i64 r.s, .int .i64 r.t, .int .i64 r.n] 25)).cell? ⟨w1.heap.size, 1, none⟩ = some (.int .i64 r.s) := RecB.cell (show RecB (w16.alloc (.cells #[.int .i64 r.e, .int .i64 r.s, .int .i64 r.t, .int .i64 r.n] 25)) w1.heap.size 25 r from HS.out.get 8 rfl) 1 rfl
            have ky2 : (w16.alloc (.cells #[.int .i64 r.e, .int .i64 r.s, .int .i64 r.t, .int .i64 r.n] 25)).cell? ⟨w1.heap.size, 2, none⟩ = some (.int .i64 r.t) := RecB.cell (show RecB (w16.alloc (.cells #[.int .i64 r.e, .int .i64 r.s, .int .i64 r.t, .int .i64 r.n] 25)) w1.heap.size 25 r from HS.out.get 8 rfl) 2 rfl
            have ky3 : (w16.alloc (.cells #[.int .i64 r.e, .int .i64 r.s, .int .i64 r.t, .int .i64 r.n] 25)).cell? ⟨w1.heap.size, 3, none⟩ = some (.int .i64 r.n) := RecB.cell (show RecB (w16.alloc (.cells #[.int .i64 r.e, .int .i64 r.s, .int .i64 r.t, .int .i64 r.n] 25)) w1.heap.size 25 r from HS.out.get 8 rfl) 3 rfl
            go_wp2
            go_ret
            exact ⟨rfl, HS.out.below⟩
          · have hnn : ((n : Int) != (log.length : Int)) = true := by simp; omega
            go_wp2
            go_ret
            exact ⟨rfl, HS.out.below⟩

set_option maxRecDepth 100000 in
theorem lifted (os : Os) (started : os.Started) (H : Type) (enc : TypeId × Value → H) :
    ReturnsInHanded {} Tryd.checked os 3 .any (fun w args => (Rows.fnRecordsSpec.pre enc Tryd.prog Tryd.f3 [] false w args ∧ laidMetH Tryd.prog Rows.fnRecordsRow.laid w) ∧ sizedMet enc Tryd.prog Tryd.f3 (OpenSpec.ofChange Rows.fnRecordsSpec) false w args) (Rows.fnRecordsSpec.post enc Tryd.prog Tryd.f3 false true false false) := by
  refine returnsInHanded_of_change_and (C := Tryd.checked) (X := fun w _ => laidMetH Tryd.prog Rows.fnRecordsRow.laid w) (fun _ _ _ hh h => h.of_heap hh) own started (by kernel_rfl) Tryd.func3
    (ChangeSpec.witness_shaped (enc := enc) (C := Tryd.checked) (os := os) (X := fun w _ => laidMetH Tryd.prog Rows.fnRecordsRow.laid w) false (World.laidAll Tryd.prog os Rows.fnRecordsRow.laid) #[.slice none 0 0] 8 (World.laidAll_os _ _ _) (World.shaped_of_ZipB (by kernel_rfl) (by kernel_rfl)) (by kernel_rfl) (by kernel_rfl) (by kernel_rfl) (by rw [MakeChecks.laidMetH_plain _ _ _ (by kernel_rfl)]; exact laidMet_laidAll _ (by kernel_rfl) (by kernel_rfl))) ?_
  intro W base args ds gs before hval0 hW hcnd _ hL _
  have hval : ∀ (j : Nat) t v, Tryd.f3.params[j]? = some t → args[j]? = some v → Value.okWide Tryd.prog W .any base t v := hval0
  have hW' := hW
  obtain ⟨p, q, hA0, hV, rfl, hfz, hnd⟩ := hW
  have hA : DataW.TrodAll enc Tryd.prog W 0 (fun _ => true) true Tryd.f3.params.toList args.toList ds p := hA0
  rw [Tryd.params3] at hA hval
  obtain ⟨v0, vs0, d0, ds0, p0, q0, hargs, rfl, rfl, h0, r0⟩ := trodAll_cons hA
  obtain ⟨rfl, rfl, rfl⟩ := trodAll_nil r0
  obtain rfl : args = #[v0] := by cases args; simp_all
  obtain ⟨rfl, rfl⟩ := trodVars_none hV
  obtain ⟨a0, len0, cap0, rfl⟩ := okWide_slice Tryd.underlying22 (hval 0 22 v0 rfl rfl)
  have k0 := h0
  have lt0 : ∀ x ∈ p0, x.block < W.heap.size := by obtain ⟨m, hm⟩ := k0; exact DataW.trod_lt m _ _ _ hm
  obtain ⟨z0, w0⟩ : ∃ zs, IsRow .u8 W a0 len0 cap0 zs := by
    obtain ⟨fuel, hf⟩ := h0
    rcases open_ints Tryd.underlying22 Tryd.underlying5 (by kernel_rfl) hf with ⟨hcs, _⟩ | ⟨x, l, c, zs, hcs, _, hl, hm, hz, _, hcell, hwz⟩
    · simp [Value.cells] at hcs
      obtain ⟨rfl, rfl, rfl⟩ := hcs
      exact ⟨[], .inl ⟨rfl, rfl, rfl, rfl⟩⟩
    · simp [Value.cells] at hcs
      obtain ⟨rfl, rfl, rfl⟩ := hcs
      exact ⟨zs, .inr ⟨_, rfl, hl, hm, by simpa using hz, hcell, hwz⟩⟩
  clear hA0 hval0
  refine (walk a0 len0 cap0 z0 W w0 (tab_fnRecords hL)).mono fun e W' ⟨he, bel⟩ => ?_
  subst he
  exact ⟨_, rfl, _, _, _, [], _, [], hW', trodAll_mk1 (shut_bool Tryd.underlying4 _), (trodAll_cons_mk (Below.trod laidOut (by kernel_rfl) (of_decide_eq_true (by kernel_rfl)) k0 bel lt0) trodAll_mk0), rfl, bel.frame _, fun h => by cases h⟩

theorem over : Rows.fnRecordsRow.holds Tryd.pinned (OpenSpec.ofChange Rows.fnRecordsSpec) :=
  OpenClaim.holds_of_wide 3 Tryd.f3 rfl rfl rfl rfl rfl rfl rfl ⟨rfl, rfl, rfl, rfl, rfl⟩ rfl rfl rfl rfl rfl (by kernel_rfl) Tryd.func3 (by kernel_rfl)
    (of_decide_eq_true (by kernel_rfl)) (by unfold Func.isWrapper; first | (rw [if_pos (by decide +kernel)]; kernel_rfl) | (rw [if_neg (by decide +kernel)]; exact ⟨rfl, rfl⟩))
    (fun os started H enc _ => lifted os started H enc)

theorem proved : Rows.FnRecordsSaid := over
end Go.Proofs.YtjdmbjeginnjiaaDoor.fnRecords
namespace Go.Proofs.YtjdmbjeginnjiaaDoor
open Go in
theorem fnRecords_holds : Rows.FnRecordsCardSaid :=
  Claim7.holds_tied_plain_at .later [] [.data, .data, .data, .data, .pinned] true (true, "b1ea88092d56401eebd89eaf7810bc628da5b02a79eea76bda1c2b9a0f36b811") false
    fnRecords.proved (fun _ h => by cases h) (by kernel_rfl) (fun _ h => by cases h) fnRecords_row_tie rfl ⟨rfl, rfl⟩ (by kernel_rfl) rfl
    (fun f fn hf hfn => by
      obtain rfl : f = 3 := Option.some.inj ((show Tryd.prog.funcNamed Rows.fnRecordsRow.func = some 3 by kernel_rfl).symm.trans hf) |>.symm
      obtain rfl : fn = Tryd.f3 := (Option.some.inj (Tryd.func3.symm.trans hfn)).symm
      exact ⟨by kernel_rfl, fun j t ht => by
        rw [Tryd.params3] at ht
        have hm : t ∈ [22] := by simpa using Array.mem_of_getElem? ht
        have hall : ([22].all fun u => !Tryd.prog.wantsStandIn u) = true := by kernel_rfl
        exact (show Tryd.prog.wantsStandIn t = false by simpa using List.all_eq_true.1 hall t hm)⟩)
    (by kernel_rfl)
end Go.Proofs.YtjdmbjeginnjiaaDoor
