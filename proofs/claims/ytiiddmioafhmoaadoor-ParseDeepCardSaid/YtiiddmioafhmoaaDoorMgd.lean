/- Joined: Lexc Build. -/
import Derived.Test.YtiiddmioafhmoaaDoorMgc
import Derived.Test.YtiiddmioafhmoaaDoorMgb
import Derived.Lib.Strings
import Derived.Lib.Slices
import Derived.Lib.Walk
import Derived.Lib.Builder
import Derived.WalkKit
import Derived.Laws.Externs

section
namespace Go.Proofs.YtiiddmioafhmoaaDoor
open Go.RowKit

theorem iskey_or (s : ByteArray) : isKeyL s.data.toList = (s.toList == [100, 97, 116, 97] || s.toList == [99, 108, 97, 115, 115] || s.toList == [105, 110, 115, 116, 97, 110, 99, 101] || s.toList == [102, 114, 111, 109] || s.toList == [119, 104, 101, 114, 101] || s.toList == [101, 110, 100] || s.toList == [100, 101, 114, 105, 118, 105, 110, 103] || s.toList == [100, 101, 102] || s.toList == [108, 101, 116] || s.toList == [114, 101, 99] || s.toList == [97, 110, 100] || s.toList == [105, 110] || s.toList == [99, 97, 115, 101] || s.toList == [111, 102] || s.toList == [105, 102] || s.toList == [116, 104, 101, 110] || s.toList == [101, 108, 115, 101]) := by
  rw [ByteArray.toList_eq]
  unfold isKeyL
  simp only [keyS, List.contains_cons, List.contains_nil, Bool.or_false, Bool.or_assoc]
theorem ismark_or (s : ByteArray) : isMarkL s.data.toList = (s.toList == [40] || s.toList == [41] || s.toList == [44] || s.toList == [59] || s.toList == [92] || s.toList == [95] || s.toList == [61] || s.toList == [45, 62] || s.toList == [124] || s.toList == [58]) := by
  rw [ByteArray.toList_eq]
  unfold isMarkL
  simp only [markS, List.contains_cons, List.contains_nil, Bool.or_false, Bool.or_assoc]

set_option maxHeartbeats 1600000 in
theorem iskey_any (s : ByteArray) (w : World) :
    Calls Tryd.prog 62 #[.string s] w fun e w' => e = .returned (.bool (isKeyL s.data.toList)) ∧ w = w' := by
  have HK := Lib.hid (iskey_or s)
  go_enter Tryd.func62, Tryd.ntmps62
  go_wp2
  all_goals
    go_ret
    refine ⟨ret_bool ?_, rfl⟩
    first | (rw [HK.out]; simp [*]; done) | (exfalso; rename_i a b; rw [a] at b; cases b)

set_option maxHeartbeats 1600000 in
theorem ismark_any (s : ByteArray) (w : World) :
    Calls Tryd.prog 63 #[.string s] w fun e w' => e = .returned (.bool (isMarkL s.data.toList)) ∧ w = w' := by
  have HK := Lib.hid (ismark_or s)
  go_enter Tryd.func63, Tryd.ntmps63
  go_wp2
  all_goals
    go_ret
    refine ⟨ret_bool ?_, rfl⟩
    first | (rw [HK.out]; simp [*]; done) | (exfalso; rename_i a b; rw [a] at b; cases b)


theorem word_kind_none (s : ByteArray) (h : s.data.toList = [] ∨ 40 < s.data.toList.length) : kindL s.data.toList = 0 := by unfold kindL; rw [if_pos h]
theorem word_kind_key (s : ByteArray) (h : ¬ (s.data.toList = [] ∨ 40 < s.data.toList.length)) (h1 : isKeyL s.data.toList = true) : kindL s.data.toList = 6 := by unfold kindL; rw [if_neg h, if_pos h1]
theorem word_kind_mark (s : ByteArray) (h : ¬ (s.data.toList = [] ∨ 40 < s.data.toList.length)) (h1 : isKeyL s.data.toList = false) (h2 : isMarkL s.data.toList = true) : kindL s.data.toList = 7 := by
  unfold kindL; rw [if_neg h, if_neg (by rw [h1]; decide), if_pos h2]
theorem word_kind_rest (s : ByteArray) (h : ¬ (s.data.toList = [] ∨ 40 < s.data.toList.length)) (h1 : isKeyL s.data.toList = false) (h2 : isMarkL s.data.toList = false) :
    kindL s.data.toList = if spanL opS.contains s.data.toList = s.data.toList.length then 5 else if spanL inNameS.contains s.data.toList < s.data.toList.length then 0 else if upperS.contains (s.data.toList.headD 0) = true then 2 else if lowS.contains (s.data.toList.headD 0) = true then 1 else 0 := by
  unfold kindL; rw [if_neg h, if_neg (by rw [h1]; decide), if_neg (by rw [h2]; decide)]
theorem head_at (s : ByteArray) (h : 0 < s.size) : s.data.toList.headD 0 = s[0] := by
  have := drop_at s 0 h
  rw [List.drop_zero] at this
  rw [this]; rfl

theorem has_as (S : ByteArray) (c : UInt8) (u : Bool) (hu : S.data.toList.contains c = u) (w : World) :
    Calls Tryd.prog 23 #[.string S, .int .u8 c.toNat] w fun e w' => e = .returned (.bool u) ∧ w = w' := by
  rw [← hu]; exact has_any S c w
theorem kind_ifs (x y n : Nat) (u v : Bool) : (if ((x : Int) == (n : Int)) = true then (5 : Int) else if y < n then 0 else if u = true then 2 else if v = true then 1 else 0) = (if x = n then 5 else if y < n then 0 else if u = true then 2 else if v = true then 1 else 0) := by
  by_cases h : x = n
  · subst h; simp
  · rw [if_neg h, if_neg (by simp; omega)]
theorem endof0 (S s : ByteArray) (w : World) (hs : s.size ≤ maxLen) (G : Nat) (hG : spanL S.data.toList.contains s.data.toList = G) :
    Calls Tryd.prog 22 #[.string s, .int .i64 0, .func (.func 23) #[.string S] #[]] w fun e w' => e = .returned (.int .i64 G) ∧ w = w' :=
  endof_has S s 0 w hs (Nat.zero_le _) G (Lib.hid (by rw [List.drop_zero, Nat.zero_add]; exact hG))

set_option maxHeartbeats 1600000 in
theorem kindof_any (s : ByteArray) (w : World) (hs : s.size ≤ maxLen) :
    Calls Tryd.prog 44 #[.string s] w fun e w' => e = .returned (.int .i64 (kindL s.data.toList)) ∧ w = w' := by
  have hs2 := hs
  unfold maxLen at hs
  have hmf : ∀ (fn : Fn) (first cap : Array Value) (w : World), (Instr.makeFunc fn first cap).run Tryd.prog w = .ok (.func fn first cap) w := fun _ _ _ _ => rfl
  by_cases h0 : s.data.toList = []
  · have HK := Lib.hid (word_kind_none s (Or.inl h0))
    have b0 : s.toList = [] := by rw [ByteArray.toList_eq]; exact h0
    clear h0
    go_enter Tryd.func44, Tryd.ntmps44
    go_wp2
    go_ret
    exact ⟨ret_int (by rw [HK.out]), rfl⟩
  · have hpos : 0 < s.size := by
      rcases Nat.eq_zero_or_pos s.size with h | h
      · exact absurd (List.length_eq_zero_iff.1 (by rw [data_len]; exact h)) h0
      · exact h
    have b0 : ¬ s.toList = [] := by rw [ByteArray.toList_eq]; exact h0
    have e0 : s.toList.isEmpty = false := by rw [List.isEmpty_eq_false_iff]; exact b0
    by_cases h40 : 40 < s.size
    · have HK := Lib.hid (word_kind_none s (Or.inr (by rw [data_len]; exact h40)))
      clear h0
      go_enter Tryd.func44, Tryd.ntmps44
      go_wp2
      go_ret
      exact ⟨ret_int (by rw [HK.out]), rfl⟩
    · have d40 : decide ((40 : Int) < (s.size : Int)) = false := by simp; omega
      have hn : ¬ (s.data.toList = [] ∨ 40 < s.data.toList.length) := by rw [data_len]; rintro (h | h); exact h0 h; exact h40 h
      have C1 := Lib.hid (fun w => iskey_any s w)
      have C2 := Lib.hid (fun w => ismark_any s w)
      cases hk : isKeyL s.data.toList
      · cases hm : isMarkL s.data.toList
        · have HK := Lib.hid (word_kind_rest s hn hk hm)
          rw [hk] at C1
          rw [hm] at C2
          obtain ⟨x, hx⟩ : ∃ x, spanL opS.contains s.data.toList = x := ⟨_, rfl⟩
          obtain ⟨y, hy⟩ : ∃ y, spanL inNameS.contains s.data.toList = y := ⟨_, rfl⟩
          obtain ⟨u, hu⟩ : ∃ u, upperS.contains s[0] = u := ⟨_, rfl⟩
          obtain ⟨v, hv⟩ : ∃ v, lowS.contains s[0] = v := ⟨_, rfl⟩
          rw [hx, hy, data_len, head_at s hpos, hu, hv, ← kind_ifs] at HK
          have hxl := span_le opS.contains s.data.toList
          have hyl := span_le inNameS.contains s.data.toList
          rw [hx, data_len] at hxl
          rw [hy, data_len] at hyl
          have C3 := Lib.hid (fun w => endof0 ⟨opS.toArray⟩ s w hs2 x hx)
          have C4 := Lib.hid (fun w => endof0 ⟨inNameS.toArray⟩ s w hs2 y hy)
          have C5 := Lib.hid (fun w => has_as ⟨upperS.toArray⟩ s[0] u hu w)
          have C6 := Lib.hid (fun w => has_as ⟨lowS.toArray⟩ s[0] v hv w)
          clear hx hy hu hv hk hm h0 hn
          go_enter Tryd.func44, Tryd.ntmps44
          go_wp2_with (first | (go_at_call 62; (with_reducible refine (C1.out _).mono ?_); rintro e w' ⟨rfl, rfl⟩) | (go_at_call 63; (with_reducible refine (C2.out _).mono ?_); rintro e w' ⟨rfl, rfl⟩) | (go_at_call 22; (with_reducible refine (C3.out _).mono ?_); rintro e w' ⟨rfl, rfl⟩) | (go_at_call 22; (with_reducible refine (C4.out _).mono ?_); rintro e w' ⟨rfl, rfl⟩) | (go_at_call 23; (with_reducible refine (C5.out _).mono ?_); rintro e w' ⟨rfl, rfl⟩) | (go_at_call 23; (with_reducible refine (C6.out _).mono ?_); rintro e w' ⟨rfl, rfl⟩))
          all_goals
            go_ret
            refine ⟨ret_int ?_, rfl⟩
            rw [HK.out]
            simp [*]
        · have HK := Lib.hid (word_kind_mark s hn hk hm)
          rw [hk] at C1
          rw [hm] at C2
          clear hk hm h0 hn
          go_enter Tryd.func44, Tryd.ntmps44
          go_wp2_with (first | (go_at_call 62; (with_reducible refine (C1.out _).mono ?_); rintro e w' ⟨rfl, rfl⟩) | (go_at_call 63; (with_reducible refine (C2.out _).mono ?_); rintro e w' ⟨rfl, rfl⟩))
          go_ret
          exact ⟨ret_int (by rw [HK.out]), rfl⟩
      · have HK := Lib.hid (word_kind_key s hn hk)
        rw [hk] at C1
        clear hk h0 hn
        go_enter Tryd.func44, Tryd.ntmps44
        go_wp2_with (first | (go_at_call 62; (with_reducible refine (C1.out _).mono ?_); rintro e w' ⟨rfl, rfl⟩))
        go_ret
        exact ⟨ret_int (by rw [HK.out]), rfl⟩

end Go.Proofs.YtiiddmioafhmoaaDoor
end

section
namespace Go.Proofs.YtiiddmioafhmoaaDoor
open Go.RowKit

theorem bld_size : (Tryd.prog.info? 83).map (fun i => i.size) = some 2 := by kernel_rfl
theorem bld_lies : liesAt Tryd.prog Tryd.prog.depth 83 (2 / Tryd.prog.cellsOf 83) 0 83 1 = true := by kernel_rfl
theorem byte_info : (Tryd.prog.info? 5).map (fun i => (i.zero, i.size, i.bytes)) = some (some (.int .u8 0), 1, 1) := by kernel_rfl

set_option maxHeartbeats 1000000 in
set_option maxRecDepth 100000 in
theorem copycheck_used (b : Nat) (w : World) (h0 : w.cell? ⟨b, 0, none⟩ = some (.pointer (some ⟨b, 0, none⟩))) :
    Calls Tryd.prog 61 #[.pointer (some ⟨b, 0, none⟩)] w fun e w' => e = .returned (.tuple #[]) ∧ w' = w := by
  obtain ⟨j, hj, _⟩ := Option.map_eq_some_iff.1 bld_size
  go_enter Tryd.func61, Tryd.ntmps61
  go_wp2
  rw [Lib.run_neq_ptr_same w _ Tryd.underlying80 hj]
  go_wp2
  go_end0
  exact ⟨rfl, rfl⟩

set_option maxHeartbeats 1000000 in
set_option maxRecDepth 100000 in
theorem copycheck_fresh (b : Nat) (w : World) (h0 : w.cell? ⟨b, 0, none⟩ = some (.pointer none)) (hsh : w.shape? b = some (83, 2)) (hfz : w.frozen? ⟨b, 0, none⟩ = false) :
    Calls Tryd.prog 61 #[.pointer (some ⟨b, 0, none⟩)] w fun e w' => e = .returned (.tuple #[]) ∧ w' = w.setCell ⟨b, 0, none⟩ (.pointer (some ⟨b, 0, none⟩)) := by
  obtain ⟨j, hj, hjs⟩ := Option.map_eq_some_iff.1 bld_size
  go_enter Tryd.func61, Tryd.ntmps61
  go_wp2
  rw [Lib.run_to_unsafe w ⟨b, 0, none⟩ Tryd.underlying80 Tryd.underlying123 hj (by rw [hjs]; decide) hsh (Nat.zero_lt_succ 1)]
  simp only [Result.andThen]
  rw [Oper.upon_value]
  go_wp2
  rw [run_callFunc_extern Tryd.func75 (by kernel_rfl) (by kernel_rfl) (by kernel_rfl) (e := Extern.AbiNoEscape.same) (by kernel_rfl)]
  rw [Lib.run_noEscape]
  simp only [Result.andThen]
  rw [Oper.upon_value]
  go_wp2
  rw [Lib.run_from_unsafe w ⟨b, 0, none⟩ Tryd.underlying123 Tryd.underlying80 hj hsh bld_lies]
  simp only [Result.andThen]
  rw [Oper.upon_value]
  go_wp2
  go_end0
  exact ⟨rfl, rfl⟩

theorem copycheck_any (B b : Nat) (bs : List Value) (w : World) (h : Lib.IsBuilder 83 5 B b bs w) :
    Calls Tryd.prog 61 #[.pointer (some ⟨b, 0, none⟩)] w fun e w' => e = .returned (.tuple #[]) ∧ (Lib.BuilderAt 83 5 B b (.pointer (some ⟨b, 0, none⟩)) bs w' ∧ Below B w w') := by
  rcases h with h | h
  · refine (copycheck_fresh b w h.cell0 h.shape h.frozen0).mono ?_
    rintro e w' ⟨rfl, rfl⟩
    exact ⟨rfl, h.used _, (Below.refl B w).setCell (p := ⟨b, 0, none⟩) h.1 _⟩
  · refine (copycheck_used b w h.cell0).mono ?_
    rintro e w' ⟨rfl, rfl⟩
    exact ⟨rfl, h, Below.refl B _⟩

set_option maxHeartbeats 2000000 in
set_option maxRecDepth 100000 in
theorem writebyte_any (B b : Nat) (bs : List Value) (c : Int) (w : World) (h : Lib.IsBuilder 83 5 B b bs w) (hlen : bs.length + 1 ≤ 140737488355328) (hBw : B ≤ w.heap.size) :
    Calls Tryd.prog 43 #[.pointer (some ⟨b, 0, none⟩), .int .u8 c] w fun e w' => e = .returned .nilIface ∧ (Lib.BuilderAt 83 5 B b (.pointer (some ⟨b, 0, none⟩)) (bs ++ [.int .u8 c]) w' ∧ Below B w w') := by
  obtain ⟨i0, hi, hz0, hz1, hz2⟩ := info_parts byte_info
  go_enter Tryd.func43, Tryd.ntmps43
  go_wp2_with (go_at_call 61; refine (copycheck_any B b bs _ h).mono ?_)
  rintro e w1 ⟨rfl, h1, hb1⟩
  obtain ⟨hB, v, hbk, hown, hne⟩ := h1
  have c0 : w1.cell? ⟨b, 0, none⟩ = some (.pointer (some ⟨b, 0, none⟩)) := by rw [Lib.cell_of_heap hbk]; rfl
  have c1 : w1.cell? ⟨b, 1, none⟩ = some v := by rw [Lib.cell_of_heap hbk]; rfl
  go_wp2_with (at_builtin; refine wpList_append_own _ rfl _ _ 81 rfl B 5 i0 (.int .u8 0) 1 1 Tryd.underlying81 hi hz0 hz1 hz2 rfl (by decide) _ _ _ rfl (hown.alloc _) ⟨w1.heap.size, 0, none⟩ 1 1 [.int .u8 c] rfl rfl ?c1 ?c2 ?c3 ?c4 ?c5 ?_)
  case c1 =>
    intro j u hj
    match j, hj with
    | 0, hj => simp at hj; subst hj; simp [Addr.add]
  case c2 => intro u hu; simp at hu; subst hu; rfl
  case c3 => unfold maxLen; omega
  case c4 => omega
  case c5 => have := hb1.size; simp; omega
  intro v' w2 hown' hgrow _
  have hlt : b < w1.heap.size := by
    rcases Nat.lt_or_ge b w1.heap.size with h' | h'
    · exact h'
    · simp [Array.getElem?_eq_none h'] at hbk
  have hb2 : w2.heap[b]? = some (.cells #[.pointer (some ⟨b, 0, none⟩), v] 83 (0, 0)) := by
    rw [hgrow.block b (by simp; omega) (fun e => hne e.symm), Lib.alloc_old w1 _ b hlt]
    exact hbk
  have d0 : w2.cell? ⟨b, 0, none⟩ = some (.pointer (some ⟨b, 0, none⟩)) := by rw [Lib.cell_of_heap hb2]; rfl
  have d1 : w2.cell? ⟨b, 1, none⟩ = some v := by rw [Lib.cell_of_heap hb2]; rfl
  have f1 : w2.frozen? ⟨b, 1, none⟩ = false := Lib.frozen_of_heap hb2 1
  obtain ⟨g, cap, rfl⟩ : ∃ g cap, v' = .slice (some ⟨g, 0, none⟩) (bs.length + 1) cap := by
    rcases hown'.2 with ⟨_, h0⟩ | ⟨g, cap, cur, hv, _⟩
    · omega
    · exact ⟨g, cap, hv⟩
  go_wp2
  go_ret
  refine ⟨rfl, ?_, ?_⟩
  · exact Lib.BuilderAt.put (T := 83) (e := 5) hB hb2 (bs' := bs ++ [.int .u8 c]) (by simpa using hown') (by decide)
  · exact ((hb1.alloc (by have := hb1.size; omega) _).grown hgrow (by have := hb1.size; simp; omega) (fun k hk => (hown.lt k hk).1)).setCell (p := ⟨b, 1, none⟩) hB _

end Go.Proofs.YtiiddmioafhmoaaDoor
end
