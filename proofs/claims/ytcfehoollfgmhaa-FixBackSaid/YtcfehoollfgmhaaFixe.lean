/- Walks: the document's first clash, and its order. -/
import Derived.Test.YtcfehoollfgmhaaFixc
import Derived.Test.YtcfehoollfgmhaaFixd
namespace Go.Proofs.Ytcfehoollfgmhaa
open Go.RowKit
set_option linter.unusedVariables false

/-- What the document's Clash answers. -/
def ClashSays (f : Nat → Nat) (n : Nat) (w : World) (e : Ending) (w' : World) : Prop :=
  ((∃ k, k < n ∧ ClashAt f k ∧ NoC f k ∧ e = .returned (.int .i64 k)) ∨ (NoC f n ∧ e = .returned (.int .i64 (-1)))) ∧ Below w.heap.size w w'
def Above (f : Nat → Nat) (k : Nat) (i : Int) : Prop := ∀ m : Nat, i < m → m < k → 4 < f m
theorem above_step {f : Nat → Nat} {k m : Nat} (h : Above f k (m : Int)) (h1 : 4 < f m) : Above f k ((m : Int) - 1) := fun j h2 h3 => by
  rcases Nat.lt_or_ge m j with hl | hg
  · exact h j (by omega) h3
  · have : j = m := by omega
    subst this; exact h1
theorem noc_other {f : Nat → Nat} {k : Nat} (h : NoC f k) (h1 : f k ≠ 4) : NoC f (k + 1) := noc_succ h fun hc => h1 hc.1
theorem noc_all {f : Nat → Nat} {k : Nat} (h : NoC f k) (h1 : Above f k (-1)) : NoC f (k + 1) := noc_succ h fun ⟨_, s, hs, h4, _⟩ => by
  have := h1 s (by omega) hs; omega
theorem noc_less {f : Nat → Nat} {k m : Nat} (h : NoC f k) (hm : m < k) (h1 : Above f k (m : Int)) (h2 : f m < 4) : NoC f (k + 1) := noc_succ h fun ⟨_, s, hs, h4, hb⟩ => by
  rcases Nat.lt_trichotomy s m with hl | rfl | hg
  · have := hb m hl hm; omega
  · omega
  · have := h1 s (by omega) hs; omega
theorem clash_four {f : Nat → Nat} {k m : Nat} (h4 : f k = 4) (hm : m < k) (h1 : Above f k (m : Int)) (h2 : f m = 4) : ClashAt f k := ⟨h4, m, hm, h2, fun j h3 h5 => h1 j (by omega) h5⟩

set_option maxHeartbeats 6400000 in
theorem rclash_any (ss : List ByteArray) (A : Option Addr) (n c : Nat) (w : World) (hnm : n ≤ 8796093022208) (hrd : Reads w w.heap.size 1 A n (strVals ss)) :
    Calls Try.prog 13 #[.slice A n c] w (ClashSays (lvs ss) n w) := by
  obtain ⟨f, hf⟩ : ∃ f, lvs ss = f := ⟨_, rfl⟩
  have HF := Lib.hid hf
  rw [hf]
  clear hf
  go_enter Try.func13, Try.ntmps13
  go_wp2
  go_loopw [3] (fun i wr => ∃ k : Nat, i = .int .i64 k ∧ k ≤ n ∧ NoC f k ∧ Below w.heap.size w wr) (fun i _ => n - (intOf i).toNat)
  case atStart => exact ⟨0, rfl, Nat.zero_le _, noc_zero f, Below.refl _ _⟩
  case round =>
    obtain ⟨k, rfl, hkn, hno, hbel⟩ := hrel
    have HNO := Lib.hid hno
    have HB := Lib.hid hbel
    clear hno hbel
    by_cases hlt : k < n
    · obtain ⟨ad, sk, rfl, hbl, hck, HLK⟩ := str_at hrd hlt
      rw [HF.out] at HLK
      obtain ⟨fk, hfk⟩ : ∃ fk, f k = fk := ⟨_, rfl⟩
      rw [hfk] at HLK
      have hck2 := (HB.out.cell hbl).trans hck
      have C1 := Lib.hid (fun w => rlevel_any sk w fk HLK)
      by_cases h4 : fk = 4
      · have HK4 := Lib.hid (hfk.trans h4)
        subst h4
        clear hfk
        go_wp2_with (go_at_call 8; (with_reducible refine (C1.out _).mono ?_); rintro e w2 ⟨rfl, hb2⟩)
        have HB2 := Lib.hid (HB.out.trans (hb2.mono HB.out.size))
        clear hb2
        go_loopw [4] (fun v wr => ∃ i : Int, v = .int .i64 i ∧ -1 ≤ i ∧ i < k ∧ Above f k i ∧ Below w.heap.size w wr) (fun v _ => (intOf v + 1).toNat)
        case atStart => exact ⟨(k : Int) - 1, rfl, by omega, by omega, fun m h1 h2 => by omega, HB2.out⟩
        case round =>
          obtain ⟨i, rfl, hi1, hi2, hab, hbel⟩ := hrel
          have HAB := Lib.hid hab
          have HB3 := Lib.hid hbel
          clear hab hbel
          by_cases hi : 0 ≤ i
          · obtain ⟨m, rfl⟩ := Int.eq_ofNat_of_zero_le hi
            have hmn : m < n := by omega
            obtain ⟨ad2, sm, ead, hbm, hcm, HLM⟩ := str_at hrd hmn
            injection ead with ead
            subst ead
            rw [HF.out] at HLM
            obtain ⟨fm, hfm⟩ : ∃ fm, f m = fm := ⟨_, rfl⟩
            rw [hfm] at HLM
            have hcm2 := (HB3.out.cell hbm).trans hcm
            have C2 := Lib.hid (fun w => rlevel_any sm w fm HLM)
            have hbm' : (ad.add m).block < wr.heap.size := Nat.lt_of_lt_of_le hbm HB3.out.size
            rcases Nat.lt_trichotomy fm 4 with h | h | h
            · have h1 : ¬ 4 < fm := by omega
              have h2 : ((fm : Int) == 4) = false := by simp; omega
              have HH := Lib.hid (noc_less HNO.out (by omega) HAB.out (by rw [hfm]; exact h))
              clear hfm
              go_wp2_with (first | (go_at_call 8; (with_reducible refine (C2.out _).mono ?_); rintro e w3 ⟨rfl, hb3⟩; have hcm3 := (hb3.cell hbm').trans hcm2) | (go_at_call 8; (with_reducible refine (C2.out _).mono ?_); rintro e w4 ⟨rfl, hb4⟩))
              go_roundw
              case rel => exact ⟨k + 1, by go_num, by omega, HH.out, (HB3.out.trans (hb3.mono HB3.out.size)).trans (hb4.mono (Nat.le_trans HB3.out.size hb3.size))⟩
              case measure => simp [intOf]; omega
            · subst h
              have HH := Lib.hid (clash_four HK4.out (by omega) HAB.out hfm)
              clear hfm
              go_wp2_with (first | (go_at_call 8; (with_reducible refine (C2.out _).mono ?_); rintro e w3 ⟨rfl, hb3⟩; have hcm3 := (hb3.cell hbm').trans hcm2) | (go_at_call 8; (with_reducible refine (C2.out _).mono ?_); rintro e w4 ⟨rfl, hb4⟩))
              go_ret
              exact ⟨.inl ⟨k, hlt, HH.out, HNO.out, rfl⟩, (HB3.out.trans (hb3.mono HB3.out.size)).trans (hb4.mono (Nat.le_trans HB3.out.size hb3.size))⟩
            · have HH := Lib.hid (above_step HAB.out (by rw [hfm]; exact h))
              clear hfm
              go_wp2_with (go_at_call 8; (with_reducible refine (C2.out _).mono ?_); rintro e w3 ⟨rfl, hb3⟩)
              go_roundw
              case rel => exact ⟨(m : Int) - 1, rfl, by omega, by omega, HH.out, HB3.out.trans (hb3.mono HB3.out.size)⟩
              case measure => simp [intOf]
          · obtain rfl : i = -1 := by omega
            have HH := Lib.hid (noc_all HNO.out HAB.out)
            go_wp2
            go_roundw
            case rel => exact ⟨k + 1, by go_num, by omega, HH.out, HB3.out⟩
            case measure => simp [intOf]; omega
      · have h4' : ((fk : Int) != 4) = true := by simp; omega
        have HH := Lib.hid (noc_other HNO.out (by rw [hfk]; exact h4))
        clear hfk h4
        go_wp2_with (go_at_call 8; (with_reducible refine (C1.out _).mono ?_); rintro e w2 ⟨rfl, hb2⟩)
        go_roundw
        case rel => exact ⟨k + 1, by go_num, by omega, HH.out, HB.out.trans (hb2.mono HB.out.size)⟩
        case measure => simp [intOf]; omega
    · obtain rfl : k = n := by omega
      go_wp2
      go_ret
      exact ⟨.inr ⟨HNO.out, rfl⟩, HB.out⟩

theorem own_below {w w' : World} {base size n : Nat} {e : TypeId} {v : Value} {xs : List Value} (h : w.ownsRow base e size v n xs) (hb : Below w.heap.size w w') : w'.ownsRow base e size v n xs := by
  refine ⟨h.1, ?_⟩
  rcases h.2 with h0 | ⟨g, cap, cur, hv, hg, hh, hr⟩
  · exact Or.inl h0
  · refine Or.inr ⟨g, cap, cur, hv, hg, ?_, hr⟩
    rw [hb.block g ?_]; exact hh
    rcases Nat.lt_or_ge g w.heap.size with hlt | hge
    · exact hlt
    · rw [Array.getElem?_eq_none hge] at hh; cases hh
/-- A slice of numbers that the call has made. -/
def OwnInts (w : World) (l : List Nat) (n : Nat) (e : Ending) (w' : World) : Prop :=
  ∃ (A : Option Addr) (c : Nat), e = .returned (.slice A n c) ∧ Reads w' w'.heap.size 1 A n (intVals l) ∧ Below w.heap.size w w'
theorem own_ints {w w' : World} {base n : Nat} {v : Value} {l : List Nat} (h : w'.ownsRow base 3 1 v n (intVals l)) (hb : Below w.heap.size w w') : OwnInts w l n (.returned v) w' := by
  obtain ⟨A, c, rfl, _⟩ := own_form h
  exact ⟨A, c, rfl, Reads.of_own h, hb⟩
theorem ints_one (l : List Nat) : ∀ u ∈ intVals l, u.oneCell' = true := by
  intro u hu
  rw [List.mem_map] at hu
  obtain ⟨x, _, rfl⟩ := hu
  rfl
theorem ord_slice {f : Nat → Nat} {fr to a : Nat} (h : IsRoot f fr to a) : intVals (ordL f fr to) = (([] ++ intVals (ordL f fr a)) ++ intVals (ordL f (a + 1) to)) ++ [.int .i64 (a : Int)] := by
  rw [ord_root h]; simp

theorem sd_no (g : Nat) (h : ¬ 6 ≤ g) : ((sdN g : Int) == 1) = false := by
  rcases show g = 0 ∨ g = 1 ∨ g = 2 ∨ g = 3 ∨ g = 4 ∨ g = 5 by omega with h | h | h | h | h | h <;> subst h <;> rfl

set_option maxHeartbeats 6400000 in
theorem rorder_any (ss : List ByteArray) (n c m : Nat) (hnm : n ≤ 8796093022208) : ∀ (A : Option Addr) (fr to : Nat) (w : World), to - fr = m → fr ≤ to → to ≤ n → Reads w w.heap.size 1 A n (strVals ss) →
    Calls Try.prog 14 #[.slice A n c, .int .i64 fr, .int .i64 to] w (OwnInts w (ordL (lvs ss) fr to) m) := by
  induction m using Nat.strongRecOn with
  | ind m ih =>
    intro A fr to w hm hft htn hrd
    obtain ⟨f, hf⟩ : ∃ f, lvs ss = f := ⟨_, rfl⟩
    have HF := Lib.hid hf
    rw [hf]
    have HIH := Lib.hid ih
    clear hf ih
    by_cases hlt : fr < to
    · have hd : ((fr : Int) == (to : Int)) = false := by simp; omega
      have HM := Lib.hid hm
      clear hm
      go_enter Try.func14, Try.ntmps14
      go_wp2_with fail
      go_loopw [7, 8] (fun v7 v8 wr => ∃ a i : Nat, v7 = .int .i64 a ∧ v8 = .int .i64 i ∧ i ≤ to ∧ IsRoot f fr i a ∧ Below w.heap.size w wr) (fun _ v _ => to - (intOf v).toNat)
      case atStart => exact ⟨fr, fr + 1, rfl, by go_num, by omega, ⟨by omega, by omega, fun j h1 h2 => by omega, fun j h1 h2 => by omega⟩, Below.refl _ _⟩
      case round =>
        obtain ⟨a, i, rfl, rfl, hit, hroot, hbel⟩ := hrel
        have har : fr ≤ a := hroot.1
        have hai : a < i := hroot.2.1
        have HR := Lib.hid hroot
        have HB := Lib.hid hbel
        clear hroot hbel
        by_cases hil : i < to
        · skip
          obtain ⟨ada, sa, rfl, hbla, hca, HLA⟩ := str_at hrd (show a < n by omega)
          obtain ⟨adi, si, ead, hbli, hci, HLI⟩ := str_at hrd (show i < n by omega)
          injection ead with ead
          subst ead
          rw [HF.out] at HLA HLI
          obtain ⟨fa, hfa⟩ : ∃ fa, f a = fa := ⟨_, rfl⟩
          obtain ⟨fi, hfi⟩ : ∃ fi, f i = fi := ⟨_, rfl⟩
          rw [hfa] at HLA
          rw [hfi] at HLI
          have hca2 := (HB.out.cell hbla).trans hca
          have hci2 := (HB.out.cell hbli).trans hci
          have hbi' : (ada.add i).block < wr.heap.size := Nat.lt_of_lt_of_le hbli HB.out.size
          have C1 := Lib.hid (fun w => rlevel_any sa w fa HLA)
          have C2 := Lib.hid (fun w => rlevel_any si w fi HLI)
          have hfa8 : fa ≤ 8 := by rw [← HLA.out]; exact lv_le _
          have C3 := Lib.hid (fun w => rside_any (fa : Int) fa rfl hfa8 w)
          obtain ⟨sd, hsd⟩ : ∃ sd, sdN fa = sd := ⟨_, rfl⟩
          rw [hsd] at C3
          have HS := root_step HR.out
          rw [hfa, hfi] at HS
          rcases Nat.lt_trichotomy fi fa with h | h | h
          · have d0 : decide (fi < fa) = true := by simpa using h
            have HH := Lib.hid (show IsRoot f fr (i + 1) i by rw [if_pos (by unfold Pops; omega)] at HS; exact HS)
            clear h HS hfa hfi hsd
            go_wp2_with (first | (go_at_call 8; (with_reducible refine (C1.out _).mono ?_); rintro e w2 ⟨rfl, hb2⟩; have hci3 := (hb2.cell hbi').trans hci2) | (go_at_call 8; (with_reducible refine (C2.out _).mono ?_); rintro e w3 ⟨rfl, hb3⟩) | (go_at_call 9; (with_reducible refine (C3.out _).mono ?_); rintro e w' ⟨rfl, rfl⟩))
            go_roundw
            case rel => exact ⟨i, i + 1, rfl, by go_num, by omega, HH.out, (HB.out.trans (hb2.mono HB.out.size)).trans (hb3.mono (Nat.le_trans HB.out.size hb2.size))⟩
            case measure => simp [intOf]; omega
          · have d0 : decide (fi < fa) = false := by simp; omega
            have d1 : ((fi : Int) == (fa : Int)) = true := by simp; omega
            by_cases h6 : 6 ≤ fa
            · have d2 : ((sd : Int) == 1) = true := by rw [← hsd]; unfold sdN; rw [if_neg (by omega), if_neg (by omega)]; rfl
              have HH := Lib.hid (show IsRoot f fr (i + 1) i by rw [if_pos (by unfold Pops; omega)] at HS; exact HS)
              clear h HS hfa hfi hsd
              go_wp2_with (first | (go_at_call 8; (with_reducible refine (C1.out _).mono ?_); rintro e w2 ⟨rfl, hb2⟩; have hci3 := (hb2.cell hbi').trans hci2) | (go_at_call 8; (with_reducible refine (C2.out _).mono ?_); rintro e w3 ⟨rfl, hb3⟩) | (go_at_call 9; (with_reducible refine (C3.out _).mono ?_); rintro e w' ⟨rfl, rfl⟩))
              go_roundw
              case rel => exact ⟨i, i + 1, rfl, by go_num, by omega, HH.out, (HB.out.trans (hb2.mono HB.out.size)).trans (hb3.mono (Nat.le_trans HB.out.size hb2.size))⟩
              case measure => simp [intOf]; omega
            · have d2 : ((sd : Int) == 1) = false := by rw [← hsd]; exact sd_no fa h6
              have HH := Lib.hid (show IsRoot f fr (i + 1) a by rw [if_neg (by unfold Pops; omega)] at HS; exact HS)
              clear h HS hfa hfi hsd
              go_wp2_with (first | (go_at_call 8; (with_reducible refine (C1.out _).mono ?_); rintro e w2 ⟨rfl, hb2⟩; have hci3 := (hb2.cell hbi').trans hci2) | (go_at_call 8; (with_reducible refine (C2.out _).mono ?_); rintro e w3 ⟨rfl, hb3⟩) | (go_at_call 9; (with_reducible refine (C3.out _).mono ?_); rintro e w' ⟨rfl, rfl⟩))
              go_roundw
              case rel => exact ⟨a, i + 1, rfl, by go_num, by omega, HH.out, (HB.out.trans (hb2.mono HB.out.size)).trans (hb3.mono (Nat.le_trans HB.out.size hb2.size))⟩
              case measure => simp [intOf]; omega
          · have d0 : decide (fi < fa) = false := by simp; omega
            have d1 : ((fi : Int) == (fa : Int)) = false := by simp; omega
            have HH := Lib.hid (show IsRoot f fr (i + 1) a by rw [if_neg (by unfold Pops; omega)] at HS; exact HS)
            clear h HS hfa hfi hsd
            go_wp2_with (first | (go_at_call 8; (with_reducible refine (C1.out _).mono ?_); rintro e w2 ⟨rfl, hb2⟩; have hci3 := (hb2.cell hbi').trans hci2) | (go_at_call 8; (with_reducible refine (C2.out _).mono ?_); rintro e w3 ⟨rfl, hb3⟩) | (go_at_call 9; (with_reducible refine (C3.out _).mono ?_); rintro e w' ⟨rfl, rfl⟩))
            go_roundw
            case rel => exact ⟨a, i + 1, rfl, by go_num, by omega, HH.out, (HB.out.trans (hb2.mono HB.out.size)).trans (hb3.mono (Nat.le_trans HB.out.size hb2.size))⟩
            case measure => simp [intOf]; omega
        · obtain rfl : i = to := by omega
          obtain ⟨q1, hq1⟩ : ∃ q1, a - fr = q1 := ⟨_, rfl⟩
          obtain ⟨q2, hq2⟩ : ∃ q2, i - (a + 1) = q2 := ⟨_, rfl⟩
          have HQ1 := Lib.hid hq1
          have HQ2 := Lib.hid hq2
          have hmq : q1 + q2 + 1 = m := by have := HM.out; omega
          have HMQ := Lib.hid hmq
          have hqm : q1 + q2 + 1 ≤ 8796093022208 := by have := HM.out; omega
          have HT := Lib.hid (ord_slice HR.out)
          have IH := Lib.hid (fun (fr' to' q' : Nat) (x : Int) (w' : World) (hx : x = (fr' : Int)) (h0 : to' - fr' = q') (h1 : q' < m) (h2 : fr' ≤ to') (h3 : to' ≤ n) (hb : Below w.heap.size w w') => show Calls Try.prog 14 #[.slice A n c, .int .i64 x, .int .i64 to'] w' (OwnInts w' (ordL f fr' to') q') by
            have := HIH.out q' h1 A fr' to' w' h0 h2 h3 ((hrd.below hb).more hb.size)
            rw [HF.out] at this
            subst hx
            exact this)
          obtain ⟨i0, hi, hz0, hz1, hz2⟩ := info_parts int_info
          have HI := Lib.hid hi
          have HZ0 := Lib.hid hz0
          have HZ1 := Lib.hid hz1
          have HZ2 := Lib.hid hz2
          clear hi hz0 hz1 hz2 hq1 hq2 hmq
          go_wp2_with fail
          refine (IH.out fr a q1 _ _ rfl HQ1.out (by have := HMQ.out; omega) har (by omega) HB.out).mono ?_
          rintro e w2 ⟨A1, c1, rfl, hr1, hb1⟩
          have HB1 := Lib.hid (HB.out.trans (hb1.mono HB.out.size))
          have HR1 := Lib.hid hr1
          clear hr1 hb1
          go_wp2_with (at_builtin; refine wpList_append_any _ rfl (.tmp 47) (.tmp 51) 29 rfl w.heap.size 3 i0 (.int .i64 0) 1 8 Try.underlying29 HI.out HZ0.out HZ1.out HZ2.out rfl (by decide) (.slice none 0 0) 0 [] rfl (World.ownsRow_nil _ _ _ _) w2.heap.size A1 q1 c1 _ rfl HR1.out (ints_one _) (by unfold maxLen; omega) (by omega) HB1.out.size ?_)
          intro v3 w3 hown3 hg3 _
          have HO3 := Lib.hid hown3
          have HB3 := Lib.hid (HB1.out.grown hg3 HB1.out.size (fun k hk => by simp [Value.ownBlock] at hk))
          clear hown3 hg3
          go_wp2_with fail
          refine (IH.out (a + 1) i q2 _ _ (by simp) HQ2.out (by have := HMQ.out; omega) (by omega) htn HB3.out).mono ?_
          rintro e w4 ⟨A2, c2, rfl, hr2, hb2⟩
          have HB4 := Lib.hid (HB3.out.trans (hb2.mono HB3.out.size))
          have HO4 := Lib.hid (own_below HO3.out hb2)
          have HR2 := Lib.hid hr2
          clear hr2 hb2
          go_wp2_with (at_builtin; refine wpList_append_any _ rfl (.tmp 53) (.tmp 58) 29 rfl w.heap.size 3 i0 (.int .i64 0) 1 8 Try.underlying29 HI.out HZ0.out HZ1.out HZ2.out rfl (by decide) _ _ _ rfl HO4.out w4.heap.size A2 q2 c2 _ rfl HR2.out (ints_one _) (by unfold maxLen; omega) (by omega) HB4.out.size ?_)
          intro v5 w5 hown5 hg5 _
          have HO5 := Lib.hid hown5
          have HB5 := Lib.hid (HB4.out.grown hg5 HB4.out.size (fun k hk => (HO4.out.lt k hk).1))
          have hz5 := HB5.out.size
          clear hown5 hg5
          go_wp2_with (at_builtin; refine wpList_append_own _ rfl (.tmp 60) (.tmp 62) 29 rfl w.heap.size 3 i0 (.int .i64 0) 1 8 Try.underlying29 HI.out HZ0.out HZ1.out HZ2.out rfl (by decide) _ _ _ rfl (HO5.out.alloc _) ⟨w5.heap.size, 0, none⟩ 1 1 [.int .i64 a] rfl rfl (one_new _ _ _) (one_is rfl) (by unfold maxLen; omega) (by omega) (by simp; omega) ?_)
          intro v6 w6 hown6 hg6 _
          have HE := Lib.hid (show OwnInts w (ordL f fr i) m (.returned v6) w6 by
            refine own_ints (base := w.heap.size) ?_ ((HB5.out.alloc hz5 _).grown hg6 (by simp; omega) (fun k hk => (HO5.out.lt k hk).1))
            rw [HT.out, show m = 0 + q1 + q2 + 1 by have := HMQ.out; omega]
            simpa using hown6)
          clear hown6 hg6
          go_wp2_with fail
          go_ret
          exact HE.out
    · obtain rfl : fr = to := by omega
      have hm0 : m = 0 := by omega
      subst hm0
      have hd : ((fr : Int) == (fr : Int)) = true := by simp
      have HE := Lib.hid (own_ints (l := ordL f fr fr) (w := w) (w' := w) (by rw [ord_nil f (Nat.le_refl fr)]; exact World.ownsRow_nil w w.heap.size 3 1) (Below.refl _ _))
      clear hm
      go_enter Try.func14, Try.ntmps14
      go_wp2_with fail
      go_ret
      exact HE.out

end Go.Proofs.Ytcfehoollfgmhaa
