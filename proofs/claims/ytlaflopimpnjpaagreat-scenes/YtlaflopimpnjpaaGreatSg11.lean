import Derived.Test.YtlaflopimpnjpaaGreatSg10
/-! PanQ -/
namespace Go.Proofs.YtlaflopimpnjpaaGreat
open Go.RowKit
attribute [local go_sem ↓] Go.wp_at_zero Go.wp_at_succ

theorem rsL_at {l : List Nat} (hn : l.Nodup) {i s k k2 : Nat} (ab : Bool) (hne : s ≠ i) (hk : l[k]? = some i) (hk2 : (l.eraseIdx k)[k2]? = some s) : rsL l i s ab = (l.eraseIdx k).take (k2 + if ab = true then 1 else 0) ++ i :: (l.eraseIdx k).drop (k2 + if ab = true then 1 else 0) := by
  rw [rsL_ins i s ab hne, filter_erase l k i hn hk]
  exact rsI_at i s ab _ (by rw [← filter_erase l k i hn hk]; exact hn.filter _) k2 hk2

set_option maxRecDepth 100000 in
set_option maxHeartbeats 1000000 in
/-- (*Surface).restack: next to a sibling that there is. -/
theorem restack_in {w : World} {S : Nat → Prop} {x : Nat} {st : St} (hw : Wf st) {bv : Value} {sc mp : Nat} {blk : Int → Nat} {G : Int → Nat → Value} (h : PRaw w S x st bv sc mp blk G) (i s : Nat) (hi : i ∈ st.order) (hs : s ∈ st.order) (hne : s ≠ i) (hpp : (st.sf s).parent = (st.sf i).parent) (ab : Bool) :
    Calls Tryz.prog 105 #[.pointer (some ⟨blk i, 0, none⟩), .int .i64 (s : Int), .bool ab] w fun e w' => e = .returned (.tuple #[]) ∧ (∃ G', PRaw w' S x (reord st (rsL st.order i s ab)) bv sc mp blk G') ∧ Only S w w' := by
  obtain ⟨p, hpe⟩ : ∃ p, (st.sf i).parent = p := ⟨_, rfl⟩
  have hp : Live st p := by rw [← hpe]; exact live_par hw hi
  have hik : i ∈ st.kids p := kids_mem.2 ⟨hi, hpe⟩
  have hsk : s ∈ st.kids p := kids_mem.2 ⟨hs, by rw [hpp, hpe]⟩
  have hnd : (st.kids p).Nodup := hw.nd.filter _
  obtain ⟨g, n, cap, cur, r1, r2, r3, r4, r5, r6, r7, r8⟩ := h.rowAt hp (List.ne_nil_of_mem hik)
  have hk12n := kids_len hw p
  rw [r2] at hk12n
  obtain ⟨ic, _, il⟩ := h.at (live_nat hi)
  obtain ⟨pc, pf, pl⟩ := h.at hp
  have q := (h.cells i (live_nat hi)).nat
  have i0 := ic 0 (by omega)
  have i1 := ic 1 (by omega)
  rw [q.num] at i0
  rw [q.par, hpe] at i1
  have p2 := pc 2 (by omega)
  rw [r1] at p2
  have f2 := pf 2
  obtain ⟨pcur, hpcur, hpcs⟩ := h.srf p hp
  have hpg : blk p ≠ g := neT hpcur r3 (by decide)
  obtain ⟨icur, hicur, _⟩ := h.srf i (live_nat hi)
  have hig : blk i ≠ g := neT hicur r3 (by decide)
  have hip : blk i ≠ blk p := fun e => by
    have e2 := h.inj i p (live_nat hi) hp e
    have := hw.par i
    rw [hpe] at this
    omega
  have hmpg : mp ≠ g := fun e => h.map.ne r3 e.symm
  have hmpp : mp ≠ blk p := fun e => h.map.ne hpcur e.symm
  have hgl : g < w.heap.size := (Array.getElem?_eq_some_iff.1 r3).1
  have fnd : ∀ (t : Nat), t ∈ st.kids p → ∀ W : World, Below w.heap.size w W → Calls Tryz.prog 102 #[.pointer (some ⟨blk p, 0, none⟩), .int .i64 (t : Int)] W fun e w' => ∃ k : Nat, e = .returned (.int .i64 (k : Int)) ∧ (st.kids p)[k]? = some t ∧ Below w.heap.size w w' := fun t ht W hW => by
    refine (find_any (st.kids p) (fun (j : Nat) => blk j) (t : Int) (G p 2) (blk p) W ?_ (Nat.lt_of_lt_of_le pl hW.size) ((h.ptrs hp).below hW) (by omega)).mono ?_
    · rw [hW.cell (p := ⟨blk p, 2, none⟩) pl, pc 2 (by omega)]
    · rintro e w' ⟨r, rfl, hr, hb⟩
      obtain ⟨k, rfl, hk⟩ := idx_is ht hr
      exact ⟨k, rfl, hk, hW.trans (hb.mono hW.size)⟩
  -- the first find
  have T0 : Hid (Calls Tryz.prog 102 #[.pointer (some ⟨blk p, 0, none⟩), .int .i64 (s : Int)] w fun e w' => ∃ k : Nat, e = .returned (.int .i64 (k : Int)) ∧ (st.kids p)[k]? = some s ∧ Below w.heap.size w w') := fnd s hsk w (Below.refl _ _)
  -- the second one
  have N1 : Hid (∀ w1 : World, Below w.heap.size w w1 → w1.cell? ⟨blk i, 0, none⟩ = some (.int .i64 (i : Int)) ∧ Calls Tryz.prog 102 #[.pointer (some ⟨blk p, 0, none⟩), .int .i64 (i : Int)] w1 fun e w' => ∃ k : Nat, e = .returned (.int .i64 (k : Int)) ∧ (st.kids p)[k]? = some i ∧ Below w.heap.size w w') := fun w1 h1 => ⟨by rw [h1.cell (p := ⟨blk i, 0, none⟩) il, i0], fnd i hik w1 h1⟩
  -- Delete
  have N2 : Hid (∀ (w2 : World) (k : Nat), Below w.heap.size w w2 → (st.kids p)[k]? = some i → (k : Int) < 1000 ∧ w2.cell? ⟨blk p, 2, none⟩ = some (.slice (some ⟨g, 0, none⟩) (n + 1) cap) ∧ Calls Tryz.prog 103 #[.slice (some ⟨g, 0, none⟩) (n + 1) cap, .int .i64 (k : Int), .int .i64 ((k : Int) + 1)] w2 fun e w' => e = .returned (.slice (some ⟨g, 0, none⟩) n cap) ∧ w'.cell? ⟨blk p, 2, none⟩ = some (.slice (some ⟨g, 0, none⟩) (n + 1) cap) ∧ w'.frozen? ⟨blk p, 2, none⟩ = false ∧ DMid w (w'.setCell ⟨blk p, 2, none⟩ (.slice (some ⟨g, 0, none⟩) n cap)) S st G blk p (blk p) g n cap mp k) := fun w2 k hW hk => by
    have hkn := (List.getElem?_eq_some_iff.1 hk).1
    refine ⟨by omega, by rw [hW.cell (p := ⟨blk p, 2, none⟩) pl, p2], ?_⟩
    refine (delete_any g n cap k cur w2 ((hW.block g hgl).trans r3) r4 r5 r6 (by omega) fun u hu => ?_).mono ?_
    · rw [r7] at hu
      obtain ⟨j, _, rfl⟩ := List.mem_map.1 hu
      rfl
    · rintro e W' ⟨rfl, ⟨cur', c1, c2, c3⟩, g1, s1⟩
      have hWo : ∀ b, b < w.heap.size → b ≠ g → W'.heap[b]? = w.heap[b]? := fun b hb hne => by
        rw [g1.block b (Nat.lt_of_lt_of_le hb hW.size) (fun e => hne (by injection e)), hW.block b hb]
      have hs : SrfB w (blk p) (G p) := h.srf p hp
      have hset : ∀ b, b ≠ blk p → (W'.setCell ⟨blk p, 2, none⟩ (.slice (some ⟨g, 0, none⟩) n cap)).heap[b]? = W'.heap[b]? := fun b hne => heap_setCell_other W' ⟨blk p, 2, none⟩ b _ hne
      refine ⟨rfl, ?_, ?_, ?_, ?_, ?_, fun b hb h1 h2 => ?_, ?_⟩
      · rw [World.cell?_of_block (w := w) (a := ⟨blk p, 2, none⟩) (hWo _ pl hpg), p2]
      · rw [World.frozen?_of_block (w := w) (a := ⟨blk p, 2, none⟩) (hWo _ pl hpg)]
        exact f2
      · rw [hset mp hmpp, hWo mp h.map.lt hmpg]
      · exact (hs.keep (hWo _ pl hpg)).set 2 _
      · refine ⟨⟨?_, .inr ⟨g, cap, cur', rfl, Nat.zero_le _, (hset g (fun e => hpg e.symm)).trans c1, by omega, r5, by rw [c2, Nat.mul_one], ?_⟩⟩, fun b hb => ?_⟩
        · rw [List.length_map, List.length_eraseIdx, if_pos hkn]
          omega
        · rw [Nat.mul_one, c3, r7]
          exact (ChangeMaps.map_eraseIdx _ _ _).symm
        · simp [Value.ownBlock] at hb
          subst hb
          exact r8
      · rw [hset b h1, hWo b hb h2]
      · refine Only.set ((Only.below hW).grown g1 fun b e => .inl ?_) (.inl (h.own.2.2.2 p hp)) _
        injection e with e
        rw [← e]
        exact r8
  -- the third find
  have N3 : Hid (∀ (w4 : World) (k : Nat), (st.kids p)[k]? = some i → DMid w w4 S st G blk p (blk p) g n cap mp k → Calls Tryz.prog 102 #[.pointer (some ⟨blk p, 0, none⟩), .int .i64 (s : Int)] w4 fun e w' => ∃ k2 : Nat, e = .returned (.int .i64 (k2 : Int)) ∧ (((st.kids p).eraseIdx k)[k2]? = some s ∧ Below w4.heap.size w4 w') ∧ (k2 : Int) < 1000 ∧ w'.cell? ⟨blk p, 2, none⟩ = some (.slice (some ⟨g, 0, none⟩) n cap)) := fun w4 k hk D => by
    have hkn := (List.getElem?_eq_some_iff.1 hk).1
    have hel : ((st.kids p).eraseIdx k).length = n := by rw [List.length_eraseIdx, if_pos hkn]; omega
    have hse : s ∈ (st.kids p).eraseIdx k := by
      rw [← filter_erase _ k i hnd hk, List.mem_filter]
      exact ⟨hsk, by simpa using hne⟩
    have hn0 : 0 < n := by rw [← hel]; exact List.length_pos_of_mem hse
    obtain ⟨pcur4, e1, e2, e3⟩ := D.srf
    have hpl4 : blk p < w4.heap.size := Nat.lt_of_lt_of_le pl D.only.size
    have hc4 : w4.cell? ⟨blk p, 2, none⟩ = some (.slice (some ⟨g, 0, none⟩) n cap) := by
      rw [cell_of_row w4 _ _ _ _ _ e1, e3 2 (by omega)]
      rfl
    have hP : Ptrs w4 (.slice (some ⟨g, 0, none⟩) n cap) ((st.kids p).eraseIdx k) fun (j : Nat) => blk j := by
      refine ⟨⟨_, _, by rw [hel], fun m hm => ?_⟩, fun j hj => ?_⟩
      · obtain ⟨g', cap', q1, q2, q3, q4, q5, q6⟩ := D.row.open hn0
        have hgg : g = g' := by
          injection q1 with q1
          injection q1 with q1
          injection q1
        subst hgg
        refine ⟨g, rfl, q4, q5 m _ ?_⟩
        rw [List.getElem?_map, List.getElem?_eq_getElem hm]
        rfl
      · have hj2 : j ∈ st.kids p := List.mem_of_mem_eraseIdx hj
        have hlj := live_kid hj2
        obtain ⟨jc, _, jl⟩ := h.at hlj
        obtain ⟨jcur, hjcur, _⟩ := h.srf j hlj
        have hjp : blk j ≠ blk p := fun e => by
          have e4 := h.inj j p hlj hp e
          obtain ⟨a1, a2⟩ := kids_mem.1 hj2
          have := hw.par j
          rw [a2] at this
          omega
        refine ⟨?_, Nat.lt_of_lt_of_le jl D.only.size⟩
        rw [World.cell?_of_block (w := w) (a := ⟨blk j, 0, none⟩) (D.oth _ jl hjp (neT hjcur r3 (by decide))), jc 0 (by omega), (h.cells j hlj).num]
    refine (find_any _ (fun (j : Nat) => blk j) (s : Int) _ (blk p) w4 hc4 hpl4 hP (by omega)).mono ?_
    rintro e w' ⟨r, rfl, hr, hb⟩
    obtain ⟨k2, rfl, hk2⟩ := idx_is hse hr
    have hk2l := (List.getElem?_eq_some_iff.1 hk2).1
    exact ⟨k2, rfl, ⟨hk2, hb⟩, by omega, (hb.cell (p := ⟨blk p, 2, none⟩) hpl4).trans hc4⟩
  -- Insert
  have N4 : Hid (∀ (w4 w5 : World) (k k2 : Nat) (z : Int), z = ((k2 + (if ab = true then 1 else 0) : Nat) : Int) → (st.kids p)[k]? = some i → DMid w w4 S st G blk p (blk p) g n cap mp k → (((st.kids p).eraseIdx k)[k2]? = some s ∧ Below w4.heap.size w4 w5) → Calls Tryz.prog 125 #[.slice (some ⟨g, 0, none⟩) n cap, .int .i64 z, .slice (some ⟨w5.heap.size, 0, none⟩) 1 1] (w5.alloc (.cells #[.pointer (some ⟨blk i, 0, none⟩)] 111)) fun e w' => e = .returned (.slice (some ⟨g, 0, none⟩) (n + 1) cap) ∧ w'.cell? ⟨blk p, 2, none⟩ = some (.slice (some ⟨g, 0, none⟩) n cap) ∧ w'.frozen? ⟨blk p, 2, none⟩ = false ∧ (∃ G', PRaw (w'.setCell ⟨blk p, 2, none⟩ (.slice (some ⟨g, 0, none⟩) (n + 1) cap)) S x (reord st (rsL st.order i s ab)) bv sc mp blk G') ∧ Only S w (w'.setCell ⟨blk p, 2, none⟩ (.slice (some ⟨g, 0, none⟩) (n + 1) cap))) := fun w4 w5 k k2 z hz hk D ⟨hk2, hb⟩ => by
    subst hz
    have hkn := (List.getElem?_eq_some_iff.1 hk).1
    have hk2l := (List.getElem?_eq_some_iff.1 hk2).1
    have hel : ((st.kids p).eraseIdx k).length = n := by rw [List.length_eraseIdx, if_pos hkn]; omega
    obtain ⟨⟨_, hrow⟩, _⟩ := D.row
    rcases hrow with ⟨hrow, _⟩ | ⟨g', cap', cur4, a1, a2, a3, a4, a5, a6, a7⟩
    · cases hrow
    · have hgg : g = g' := by
        injection a1 with a1
        injection a1 with a1
        injection a1
      have hcc : cap = cap' := by injection a1
      subst hgg
      subst hcc
      have hgl4 := (Array.getElem?_eq_some_iff.1 a3).1
      have hg5 : (w5.alloc (.cells #[.pointer (some ⟨blk i, 0, none⟩)] 111)).heap[g]? = some (.cells cur4 111 (0, 0)) := by
        rw [heap_old _ _ g (Nat.lt_of_lt_of_le hgl4 hb.size), hb.block g hgl4]
        exact a3
      have ht : k2 + (if ab = true then 1 else 0) ≤ n := by split <;> omega
      refine (insert_any g n cap _ w5.heap.size (.pointer (some ⟨blk i, 0, none⟩)) cur4 _ hg5 (heap_alloc_new w5 _) (by have := hb.size; omega) (by omega) r5 (by omega) ht (fun u hu => ?_) rfl).mono ?_
      · rw [Nat.mul_one] at a7
        rw [a7] at hu
        obtain ⟨j, _, rfl⟩ := List.mem_map.1 hu
        rfl
      · rintro e w7 ⟨rfl, ⟨cur7, c1, c2, c3⟩, g7, s7⟩
        have hpl4 : blk p < w4.heap.size := Nat.lt_of_lt_of_le pl D.only.size
        have h74 : ∀ b, b < w4.heap.size → b ≠ g → w7.heap[b]? = w4.heap[b]? := fun b hbl hbg => by
          have hb5 : b < w5.heap.size := Nat.lt_of_lt_of_le hbl hb.size
          rw [g7.block b (by simp; omega) (fun e => hbg (by injection e)), heap_old _ _ b hb5, hb.block b hbl]
        obtain ⟨pcur4, e1, e2, e3⟩ := D.srf
        have hset : ∀ b, b ≠ blk p → (w7.setCell ⟨blk p, 2, none⟩ (.slice (some ⟨g, 0, none⟩) (n + 1) cap)).heap[b]? = w7.heap[b]? := fun b hne => heap_setCell_other w7 ⟨blk p, 2, none⟩ b _ hne
        have hO7 : Only S w w7 := by
          refine ((D.only.after hb).alloc _).grown g7 fun b e => .inl ?_
          injection e with e
          rw [← e]
          exact r8
        have hks : (reord st (rsL st.order i s ab)).kids p = ((st.kids p).eraseIdx k).take (k2 + if ab = true then 1 else 0) ++ i :: ((st.kids p).eraseIdx k).drop (k2 + if ab = true then 1 else 0) := by
          rw [reord_kids ab hpp p, if_pos hpe]
          exact rsL_at hnd ab hne hk hk2
        refine ⟨rfl, ?_, ?_, ⟨_, h.turn (rsL_perm hw.nd ab hne hi hs) hp (fun q hq => ?_) (v := .slice (some ⟨g, 0, none⟩) (n + 1) cap) ?_ ?_ (by rw [r1]) fun b hbl h1 h2 => ?_⟩, hO7.set (.inl (h.own.2.2.2 p hp)) _⟩
        · rw [World.cell?_of_block (w := w4) (a := ⟨blk p, 2, none⟩) (h74 _ hpl4 hpg), cell_of_row w4 _ _ _ _ _ e1, e3 2 (by omega)]
          rfl
        · rw [World.frozen?_of_block (w := w4) (a := ⟨blk p, 2, none⟩) (h74 _ hpl4 hpg)]
          simp [World.frozen?, e1]
        · rw [reord_kids ab hpp q, if_neg (fun e => hq (by rw [← e, hpe]))]
        · refine ((SrfB.keep D.srf (h74 _ hpl4 hpg)).set 2 _).congr fun o _ => ?_
          unfold upO
          by_cases eo : o = 2
          · rw [if_pos eo, if_pos eo]
          · rw [if_neg eo, if_neg eo, if_neg eo]
        · rw [hks]
          have hlen : (((st.kids p).eraseIdx k).take (k2 + if ab = true then 1 else 0) ++ i :: ((st.kids p).eraseIdx k).drop (k2 + if ab = true then 1 else 0)).length = n + 1 := by
            rw [List.length_append, List.length_cons, List.length_take, List.length_drop, hel]
            omega
          rw [hlen]
          refine ⟨⟨by rw [List.length_map, hlen, Nat.mul_one], .inr ⟨g, cap, cur7, rfl, Nat.zero_le _, (hset g (fun e => hpg e.symm)).trans c1, by omega, r5, by rw [c2, Nat.mul_one], ?_⟩⟩, fun b hbb => ?_⟩
          · rw [Nat.mul_one] at a7 ⊢
            rw [c3, a7, List.map_append, List.map_cons, List.map_take, List.map_drop]
            rfl
          · simp [Value.ownBlock] at hbb
            subst hbb
            exact r8
        · rw [hset b h1]
          have hbg : b ≠ g := fun e => h2 (by rw [r1, e]; rfl)
          rw [h74 b (Nat.lt_of_lt_of_le hbl D.only.size) hbg, D.oth b hbl h1 hbg]
  unfold ptrV at i1
  have hpl : blk p < w.heap.size := pl
  obtain ⟨pb, hpb⟩ : ∃ pb, blk p = pb := ⟨_, rfl⟩
  obtain ⟨ib, hib⟩ : ∃ ib, blk i = ib := ⟨_, rfl⟩
  rw [hpb] at T0 N1 N2 N3 N4 i1
  rw [hib] at i1 N1 N4 ⊢
  clear h q ic pc pf r1 r3 r7 hpcur hpcs hpg hmpg hmpp hpb hib hicur hig hip i0 p2 f2 fnd hnd hw
  cases ab with
  | false =>
    go_enter Tryz.func105, Tryz.ntmps105
    go_wp2_with (first
      | (go_at_call 102; refine T0.out.mono ?_; rintro e w1 ⟨k1, rfl, _, h1⟩; obtain ⟨c1, T1'⟩ := N1.out w1 h1; have T1 := hide T1'; clear T0 h1 T1')
      | (go_at_call 102; refine T1.out.mono ?_; rintro e w2 ⟨k, rfl, hk, h2⟩; obtain ⟨hk1000, c2, T2'⟩ := N2.out w2 k h2 hk; have T2 := hide T2'; have HK := hide hk; clear T1 h2 T2' hk)
      | (go_at_call 103; refine T2.out.mono ?_; rintro e w3 ⟨rfl, c3, f3, D⟩; have HD := hide D; have T3 := hide (N3.out _ k HK.out D); clear T2 D)
      | (go_at_call 102; refine T3.out.mono ?_; rintro e w5 ⟨k2, rfl, h5, hk2, c5⟩; have T4 := hide (N4.out _ w5 k k2 (k2 : Int) (by simp) HK.out HD.out h5); clear T3 h5)
      | (go_at_call 125; refine T4.out.mono ?_; rintro e w7 ⟨rfl, c7, f7, R1⟩; have HR := hide R1; clear T4 R1))
    exact bodyPost_end (v := .tuple #[]) (by simp [results, Tryz.results105]) rfl ⟨rfl, HR.out⟩
  | true =>
    go_enter Tryz.func105, Tryz.ntmps105
    go_wp2_with (first
      | (go_at_call 102; refine T0.out.mono ?_; rintro e w1 ⟨k1, rfl, _, h1⟩; obtain ⟨c1, T1'⟩ := N1.out w1 h1; have T1 := hide T1'; clear T0 h1 T1')
      | (go_at_call 102; refine T1.out.mono ?_; rintro e w2 ⟨k, rfl, hk, h2⟩; obtain ⟨hk1000, c2, T2'⟩ := N2.out w2 k h2 hk; have T2 := hide T2'; have HK := hide hk; clear T1 h2 T2' hk)
      | (go_at_call 103; refine T2.out.mono ?_; rintro e w3 ⟨rfl, c3, f3, D⟩; have HD := hide D; have T3 := hide (N3.out _ k HK.out D); clear T2 D)
      | (go_at_call 102; refine T3.out.mono ?_; rintro e w5 ⟨k2, rfl, h5, hk2, c5⟩; have T4 := hide (N4.out _ w5 k k2 ((k2 : Int) + 1) (by simp) HK.out HD.out h5); clear T3 h5)
      | (go_at_call 125; refine T4.out.mono ?_; rintro e w7 ⟨rfl, c7, f7, R1⟩; have HR := hide R1; clear T4 R1))
    exact bodyPost_end (v := .tuple #[]) (by simp [results, Tryz.results105]) rfl ⟨rfl, HR.out⟩

end Go.Proofs.YtlaflopimpnjpaaGreat

/-! PanR -/
namespace Go.Proofs.YtlaflopimpnjpaaGreat
open Go.RowKit
attribute [local go_sem ↓] Go.wp_at_zero Go.wp_at_succ

def sfNow (s : Sf) : Sf := { s with now := s.next }
def sfDone (s : Sf) : Sf := { s with ask := false }

theorem cm_steps (st : St) (i : Nat) (o : List Nat) (ho : o = if st.puts i = true then rsL st.order i (st.sf i).sib.toNat (st.sf i).above else st.order) : upd (reord (upd st i sfNow) o) i sfDone = cm st i := by
  subst ho
  unfold cm upd reord
  simp only [St.mk.injEq, true_and, and_true]
  rw [List.modify_modify_eq]
  rfl

/-- Ten cells are written. -/
def ten (w : World) (b : Nat) (v3 v4 v5 v6 v7 v8 v9 v10 v11 v12 : Value) : World :=
  (((((((((w.setCell ⟨b, 3, none⟩ v3).setCell ⟨b, 4, none⟩ v4).setCell ⟨b, 5, none⟩ v5).setCell ⟨b, 6, none⟩ v6).setCell ⟨b, 7, none⟩ v7).setCell ⟨b, 8, none⟩ v8).setCell ⟨b, 9, none⟩ v9).setCell ⟨b, 10, none⟩ v10).setCell ⟨b, 11, none⟩ v11).setCell ⟨b, 12, none⟩ v12

theorem ten_other (w : World) (b g : Nat) (hg : g ≠ b) (v3 v4 v5 v6 v7 v8 v9 v10 v11 v12 : Value) : (ten w b v3 v4 v5 v6 v7 v8 v9 v10 v11 v12).heap[g]? = w.heap[g]? := by
  unfold ten
  rw [heap_setCell_other _ ⟨b, 12, none⟩ g _ hg, heap_setCell_other _ ⟨b, 11, none⟩ g _ hg, heap_setCell_other _ ⟨b, 10, none⟩ g _ hg, heap_setCell_other _ ⟨b, 9, none⟩ g _ hg, heap_setCell_other _ ⟨b, 8, none⟩ g _ hg, heap_setCell_other _ ⟨b, 7, none⟩ g _ hg, heap_setCell_other _ ⟨b, 6, none⟩ g _ hg, heap_setCell_other _ ⟨b, 5, none⟩ g _ hg, heap_setCell_other _ ⟨b, 4, none⟩ g _ hg, heap_setCell_other _ ⟨b, 3, none⟩ g _ hg]

theorem ten_only {S : Nat → Prop} (w : World) (b : Nat) (hb : S b) (v3 v4 v5 v6 v7 v8 v9 v10 v11 v12 : Value) : Only S w (ten w b v3 v4 v5 v6 v7 v8 v9 v10 v11 v12) :=
  ((((((((((Only.refl S w).set (.inl hb) _).set (.inl hb) _).set (.inl hb) _).set (.inl hb) _).set (.inl hb) _).set (.inl hb) _).set (.inl hb) _).set (.inl hb) _).set (.inl hb) _).set (.inl hb) _

theorem ten_srf {w : World} {b : Nat} {F : Nat → Value} (h : SrfB w b F) (v3 v4 v5 v6 v7 v8 v9 v10 v11 v12 : Value) : SrfB (ten w b v3 v4 v5 v6 v7 v8 v9 v10 v11 v12) b (upO (upO (upO (upO (upO (upO (upO (upO (upO (upO F 3 v3) 4 v4) 5 v5) 6 v6) 7 v7) 8 v8) 9 v9) 10 v10) 11 v11) 12 v12) :=
  (((((((((h.set 3 v3).set 4 v4).set 5 v5).set 6 v6).set 7 v7).set 8 v8).set 9 v9).set 10 v10).set 11 v11).set 12 v12

theorem ten_size (w : World) (b : Nat) (v3 v4 v5 v6 v7 v8 v9 v10 v11 v12 : Value) : (ten w b v3 v4 v5 v6 v7 v8 v9 v10 v11 v12).heap.size = w.heap.size := by
  unfold ten
  simp

set_option maxRecDepth 100000 in
set_option maxHeartbeats 1000000 in
/-- (*Surface).Commit -/
theorem sfCommit_any {w : World} {S : Nat → Prop} {x : Nat} {st : St} (hf : Fine st) {bv : Value} {sc mp : Nat} {blk : Int → Nat} {G : Int → Nat → Value} (h : PRaw w S x st bv sc mp blk G) (i : Nat) (hi : i ∈ st.order) :
    Calls Tryz.prog 57 #[.pointer (some ⟨blk i, 0, none⟩)] w fun e w' => e = .returned (.tuple #[]) ∧ (∃ G', PRaw w' S x (cm st i) bv sc mp blk G') ∧ Only S w w' := by
  have hw := hf.wf
  have hil := hw.lt hi
  obtain ⟨kc, kf, kl⟩ := h.at (live_nat hi)
  have q := (h.cells i (live_nat hi)).nat
  have c13 := kc 13 (by omega)
  have c14 := kc 14 (by omega)
  have c15 := kc 15 (by omega)
  have c16 := kc 16 (by omega)
  have c17 := kc 17 (by omega)
  have c18 := kc 18 (by omega)
  have c19 := kc 19 (by omega)
  have c20 := kc 20 (by omega)
  have c21 := kc 21 (by omega)
  have c22 := kc 22 (by omega)
  obtain ⟨pa, pm, pk, hpix⟩ := q.next.pix
  have hpix2 : G i 15 = .slice pa pm pk := hpix
  obtain ⟨l, hl⟩ : ∃ l, (st.sf i).next = l := ⟨_, rfl⟩
  have qn := q.next
  rw [hl] at qn
  rw [show G i 13 = _ from qn.w] at c13
  rw [show G i 14 = _ from qn.h] at c14
  rw [hpix2] at c15
  rw [show G i 16 = _ from qn.x] at c16
  rw [show G i 17 = _ from qn.y] at c17
  rw [show G i 18 = _ from qn.c0] at c18
  rw [show G i 19 = _ from qn.c1] at c19
  rw [show G i 20 = _ from qn.c2] at c20
  rw [show G i 21 = _ from qn.c3] at c21
  rw [show G i 22 = _ from qn.cut] at c22
  have c3 := kc 3 (by omega)
  have c4 := kc 4 (by omega)
  have c5 := kc 5 (by omega)
  have c6 := kc 6 (by omega)
  have c7 := kc 7 (by omega)
  have c8 := kc 8 (by omega)
  have c9 := kc 9 (by omega)
  have c10 := kc 10 (by omega)
  have c11 := kc 11 (by omega)
  have c12 := kc 12 (by omega)
  have f3 := kf 3
  have f4 := kf 4
  have f5 := kf 5
  have f6 := kf 6
  have f7 := kf 7
  have f8 := kf 8
  have f9 := kf 9
  have f10 := kf 10
  have f11 := kf 11
  have f12 := kf 12
  obtain ⟨t, z, ab, hs23, hs24, hs25, hst, hsa⟩ := q.stk
  -- now is what was next
  obtain ⟨W1, hW1⟩ : ∃ W1, W1 = ten w (blk i) (.int .i64 l.w) (.int .i64 l.h) (.slice pa pm pk) (.int .i64 l.x) (.int .i64 l.y) (.int .i64 l.clip.1) (.int .i64 l.clip.2.1) (.int .i64 l.clip.2.2.1) (.int .i64 l.clip.2.2.2) (.bool l.cut) := ⟨_, rfl⟩
  have hsW : SrfB W1 (blk i) (upO (upO (upO (upO (upO (upO (upO (upO (upO (upO (G i) 3 (.int .i64 l.w)) 4 (.int .i64 l.h)) 5 (.slice pa pm pk)) 6 (.int .i64 l.x)) 7 (.int .i64 l.y)) 8 (.int .i64 l.clip.1)) 9 (.int .i64 l.clip.2.1)) 10 (.int .i64 l.clip.2.2.1)) 11 (.int .i64 l.clip.2.2.2)) 12 (.bool l.cut)) := by
    rw [hW1]
    exact ten_srf (h.srf i (live_nat hi)) _ _ _ _ _ _ _ _ _ _
  have h1 : PRaw W1 S x (upd st i sfNow) bv sc mp blk _ := h.upd (gf := sfNow) hi hil (fun _ => rfl) (fun g _ hne => by rw [hW1]; exact ten_other w _ g hne _ _ _ _ _ _ _ _ _ _) hsW rfl (NCells.upd hil ⟨q.num, q.par, (by
      show LookCells _ 3 (st.sf i).next
      rw [hl]
      exact ⟨rfl, rfl, ⟨_, _, _, rfl⟩, rfl, rfl, rfl, rfl, rfl, rfl, rfl⟩), ⟨q.next.w, q.next.h, q.next.pix, q.next.x, q.next.y, q.next.c0, q.next.c1, q.next.c2, q.next.c3, q.next.cut⟩, q.stk⟩)
  have hO1 : Only S w W1 := by
    rw [hW1]
    exact ten_only w _ (h.own.2.2.2 i (live_nat hi)) _ _ _ _ _ _ _ _ _ _
  have hfw : Wf (upd st i sfNow) := upd_wf hw hil (fun _ => rfl) (fun _ => rfl) ⟨(hw.lk i).2, (hw.lk i).2⟩
  have d23 : W1.cell? ⟨blk i, 23, none⟩ = some (.bool t) := by
    rw [(h1.at (live_nat hi)).1 23 (by omega)]
    unfold upG
    rw [if_pos rfl]
    show some (G i 23) = _
    rw [hs23]
  have d24 : W1.cell? ⟨blk i, 24, none⟩ = some (.int .i64 z) := by
    rw [(h1.at (live_nat hi)).1 24 (by omega)]
    unfold upG
    rw [if_pos rfl]
    show some (G i 24) = _
    rw [hs24]
  have d25 : W1.cell? ⟨blk i, 25, none⟩ = some (.bool ab) := by
    rw [(h1.at (live_nat hi)).1 25 (by omega)]
    unfold upG
    rw [if_pos rfl]
    show some (G i 25) = _
    rw [hs25]
  obtain ⟨o, ho⟩ : ∃ o, o = if st.puts i = true then rsL st.order i (st.sf i).sib.toNat (st.sf i).above else st.order := ⟨_, rfl⟩
  have hop : o.Perm st.order := by
    have := cm_perm hw hf.sib hi
    have e : (cm st i).order = o := by rw [ho]; rfl
    rw [e] at this
    exact this
  -- behind restack
  have HEnd : Hid (∀ W : World, ((∃ G', PRaw W S x (reord (upd st i sfNow) o) bv sc mp blk G') ∧ Only S w W) → (∃ u, W.cell? ⟨blk i, 23, none⟩ = some u) ∧ (∃ u, W.cell? ⟨blk i, 24, none⟩ = some u) ∧ (∃ u, W.cell? ⟨blk i, 25, none⟩ = some u) ∧ W.frozen? ⟨blk i, 23, none⟩ = false ∧ W.frozen? ⟨blk i, 24, none⟩ = false ∧ W.frozen? ⟨blk i, 25, none⟩ = false ∧
      (∃ G', PRaw (((W.setCell ⟨blk i, 23, none⟩ (.bool false)).setCell ⟨blk i, 24, none⟩ (.int .i64 0)).setCell ⟨blk i, 25, none⟩ (.bool false)) S x (cm st i) bv sc mp blk G') ∧ Only S w (((W.setCell ⟨blk i, 23, none⟩ (.bool false)).setCell ⟨blk i, 24, none⟩ (.int .i64 0)).setCell ⟨blk i, 25, none⟩ (.bool false))) := fun W ⟨⟨G', h2⟩, hO⟩ => by
    have hi2 : i ∈ (reord (upd st i sfNow) o).order := hop.mem_iff.2 hi
    have hil2 : i < (reord (upd st i sfNow) o).sfs.length := by
      show i < (upd st i sfNow).sfs.length
      rw [upd_len]
      exact hil
    obtain ⟨mc, mf, ml⟩ := h2.at (live_nat hi2)
    have hs : SrfB W (blk i) (G' i) := h2.srf i (live_nat hi2)
    have q2 := (h2.cells i (live_nat hi2)).nat
    have ho2 := h2.own.2.2.2 i (live_nat hi2)
    refine ⟨⟨_, mc 23 (by omega)⟩, ⟨_, mc 24 (by omega)⟩, ⟨_, mc 25 (by omega)⟩, mf 23, mf 24, mf 25, ?_, ((hO.set (.inl ho2) _).set (.inl ho2) _).set (.inl ho2) _⟩
    rw [← cm_steps st i o ho]
    refine ⟨_, h2.upd (gf := sfDone) hi2 hil2 (fun _ => rfl) (fun g hg hne => ?_) (((hs.set 23 _).set 24 _).set 25 _) rfl (NCells.upd hil2 ⟨q2.num, q2.par, ⟨q2.now.w, q2.now.h, q2.now.pix, q2.now.x, q2.now.y, q2.now.c0, q2.now.c1, q2.now.c2, q2.now.c3, q2.now.cut⟩, ⟨q2.next.w, q2.next.h, q2.next.pix, q2.next.x, q2.next.y, q2.next.c0, q2.next.c1, q2.next.c2, q2.next.c3, q2.next.cut⟩, ⟨_, _, _, rfl, rfl, rfl, rfl, fun e => by cases e⟩⟩)⟩
    rw [setOther 25 _ g (by simpa using hg) hne, setOther 24 _ g (by simpa using hg) hne, setOther 23 _ g hg hne]
  have hpar : ∀ j, ((upd st i sfNow).sf j).parent = (st.sf j).parent := (upd_alike hil (g := sfNow) fun _ => rfl).par
  have HR : Hid (t = true → ∀ W : World, Below W1.heap.size W1 W → Calls Tryz.prog 105 #[.pointer (some ⟨blk i, 0, none⟩), .int .i64 z, .bool ab] W fun e w' => e = .returned (.tuple #[]) ∧ (∃ G', PRaw w' S x (reord (upd st i sfNow) o) bv sc mp blk G') ∧ Only S w w') := fun ht W hW => by
    obtain ⟨e1, e2⟩ := hsa ht
    have hask : (st.sf i).ask = true := by rw [← hst]; exact ht
    obtain ⟨s, s1, s2, s3, s4⟩ := hf.sib i hi hask
    rw [s1] at e1
    have hW1 := h1.below hW
    subst e1
    by_cases hso : s ∈ st.order
    · have hputs : st.puts i = true := by
        unfold St.puts
        rw [hask, s1, (isB_iff hw _).2 ⟨s, rfl, hso⟩]
        rfl
      rw [if_pos hputs, s1, Int.toNat_natCast, ← e2] at ho
      refine (restack_in hfw hW1 i s hi hso s2 (by rw [hpar, hpar]; exact s4) ab).mono ?_
      rintro e w' ⟨rfl, r1, r2⟩
      rw [ho]
      refine ⟨rfl, r1, (hO1.after hW).trans (r2.mono fun g _ hg => .inl hg)⟩
    · have hputs : ¬ st.puts i = true := by
        unfold St.puts
        rw [s1]
        intro hb
        rw [Bool.and_eq_true] at hb
        obtain ⟨j, j1, j2⟩ := (isB_iff hw _).1 hb.2
        have : s = j := by omega
        subst this
        exact hso j2
      rw [if_neg hputs] at ho
      refine (restack_out hfw hW1 i s hi hso ab).mono ?_
      rintro e w' ⟨rfl, r1⟩
      rw [ho]
      exact ⟨rfl, ⟨_, hW1.below r1⟩, (hO1.after hW).after r1⟩
  have HNo : Hid (t = false → (∃ G', PRaw W1 S x (reord (upd st i sfNow) o) bv sc mp blk G') ∧ Only S w W1) := fun ht => by
    have hputs : ¬ st.puts i = true := by
      unfold St.puts
      rw [← hst, ht]
      simp
    rw [if_neg hputs] at ho
    rw [ho]
    exact ⟨⟨_, h1⟩, hO1⟩
  have HW1 := hide hW1
  unfold ten at HW1
  have HD := hide (And.intro d23 (And.intro d24 d25))
  obtain ⟨ib, hib⟩ : ∃ ib, blk i = ib := ⟨_, rfl⟩
  rw [hib] at c3 c4 c5 c6 c7 c8 c9 c10 c11 c12 c13 c14 c15 c16 c17 c18 c19 c20 c21 c22 f3 f4 f5 f6 f7 f8 f9 f10 f11 f12 HW1 HD HEnd HR ⊢
  clear h h1 hsW hO1 hfw d23 d24 d25 hW1 kc kf kl q qn hpix hpix2 hs23 hs24 hs25 hst hsa ho hop hpar hl hib hf hw
  cases t with
  | false =>
    have HN := hide (HNo.out rfl)
    clear HNo HR
    go_enter Tryz.func57, Tryz.ntmps57
    go_upto_region 1 with fail
    rw [← HW1.out]
    obtain ⟨d23, d24, d25⟩ := HD.out
    clear c3 c4 c5 c6 c7 c8 c9 c10 c11 c12 c13 c14 c15 c16 c17 c18 c19 c20 c21 c22 f3 f4 f5 f6 f7 f8 f9 f10 f11 f12
    obtain ⟨⟨u23, e23⟩, ⟨u24, e24⟩, ⟨u25, e25⟩, g23, g24, g25, hend⟩ := HEnd.out _ HN.out
    have HE := hide hend
    clear hend e23 e24 e25
    go_wp2_with fail
    exact bodyPost_end (v := .tuple #[]) (by simp [results, Tryz.results57]) rfl ⟨rfl, HE.out⟩
  | true =>
    have HR2 := hide (HR.out rfl)
    clear HNo HR
    go_enter Tryz.func57, Tryz.ntmps57
    go_upto_region 1 with fail
    rw [← HW1.out]
    obtain ⟨d23, d24, d25⟩ := HD.out
    clear c3 c4 c5 c6 c7 c8 c9 c10 c11 c12 c13 c14 c15 c16 c17 c18 c19 c20 c21 c22 f3 f4 f5 f6 f7 f8 f9 f10 f11 f12
    go_wp2_with fail
    go_cut [] (fun wx => Hid ((∃ G', PRaw wx S x (reord (upd st i sfNow) o) bv sc mp blk G') ∧ Only S w wx))
    case first =>
      go_region_with ((go_at_call 105; refine (HR2.out _ ?_).mono ?_; (repeat (first | exact Below.refl _ _ | refine Below.drew ?_)); rintro e w' ⟨rfl, r1⟩; have HB := hide r1; clear r1))
      all_goals go_wp2_with fail
      all_goals go_meet
      all_goals exact HB.out
    case rest =>
      obtain ⟨⟨u23, e23⟩, ⟨u24, e24⟩, ⟨u25, e25⟩, g23, g24, g25, hend⟩ := HEnd.out _ hcut.out
      have HE := hide hend
      clear hend
      go_wp2_with fail
      exact bodyPost_end (v := .tuple #[]) (by simp [results, Tryz.results57]) rfl ⟨rfl, HE.out⟩

end Go.Proofs.YtlaflopimpnjpaaGreat
