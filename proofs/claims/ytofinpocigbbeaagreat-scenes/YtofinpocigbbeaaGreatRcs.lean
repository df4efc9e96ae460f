import Derived.Test.YtofinpocigbbeaaGreatOfsB
namespace Go.Proofs.YtofinpocigbbeaaGreat
open Go.RowKit

/-- A region as rectangles. -/
def rc (O : List (Int × Int × List (Int × Int))) : List (Int × Int × Int × Int) := O.flatMap fun b => b.2.2.map fun s => (s.1, b.1, s.2, b.2.1)

def rectCells (l : List (Int × Int × Int × Int)) : List Value := l.flatMap fun r => [.int .i64 r.1, .int .i64 r.2.1, .int .i64 r.2.2.1, .int .i64 r.2.2.2]

theorem rectCells_append (l m : List (Int × Int × Int × Int)) : rectCells (l ++ m) = rectCells l ++ rectCells m := by simp [rectCells]
theorem rectCells_len (l : List (Int × Int × Int × Int)) : (rectCells l).length = l.length * 4 := by
  induction l with
  | nil => rfl
  | cons r l ih =>
    have : rectCells (r :: l) = .int .i64 r.1 :: .int .i64 r.2.1 :: .int .i64 r.2.2.1 :: .int .i64 r.2.2.2 :: rectCells l := rfl
    rw [this]; simp [ih]; omega
theorem rectCells_at (l : List (Int × Int × Int × Int)) (k : Nat) (h : k < l.length) :
    (rectCells l)[k * 4]? = some (.int .i64 l[k].1) ∧ (rectCells l)[k * 4 + 1]? = some (.int .i64 l[k].2.1) ∧ (rectCells l)[k * 4 + 2]? = some (.int .i64 l[k].2.2.1) ∧ (rectCells l)[k * 4 + 3]? = some (.int .i64 l[k].2.2.2) := by
  induction l generalizing k with
  | nil => simp at h
  | cons r l ih =>
    have e : rectCells (r :: l) = .int .i64 r.1 :: .int .i64 r.2.1 :: .int .i64 r.2.2.1 :: .int .i64 r.2.2.2 :: rectCells l := rfl
    cases k with
    | zero => rw [e]; simp
    | succ k =>
      have := ih k (by simpa using h)
      rw [e, show (k + 1) * 4 = k * 4 + 4 by omega]
      simpa using this

/-- A list of rectangles that the call has made. -/
def OwnR (w : World) (base : Nat) (v : Value) (l : List (Int × Int × Int × Int)) : Prop := w.ownsRow base 53 4 v l.length (rectCells l) ∧ (l = [] → v = .slice none 0 0)

theorem OwnR.form {w : World} {base : Nat} {v : Value} {l : List (Int × Int × Int × Int)} (h : OwnR w base v l) : ∃ a c, v = .slice a l.length c := by
  rcases h.1.2 with ⟨h, h0⟩ | ⟨g, cap, cur, h, _⟩
  · exact ⟨none, 0, by rw [h, h0]⟩
  · exact ⟨_, _, h⟩

theorem OwnR.alloc {w : World} {base : Nat} {v : Value} {l : List (Int × Int × Int × Int)} (h : OwnR w base v l) (o : Obj) : OwnR (w.alloc o) base v l := ⟨h.1.alloc o, h.2⟩

theorem OwnR.rects {w : World} {base : Nat} {v : Value} {l : List (Int × Int × Int × Int)} (h : OwnR w base v l) : RectsAt w v l := by
  obtain ⟨hown, hnil⟩ := h
  by_cases hl : l = []
  · have := hnil hl
    subst hl
    exact ⟨none, 0, this, fun h => by simp at h⟩
  · have hpos : 0 < l.length := by cases l with
      | nil => exact absurd rfl hl
      | cons a l => simp
    obtain ⟨g, cap, rfl, _, _⟩ := hown.form hpos
    have cs := hown.cells (g := g) rfl
    refine ⟨_, cap, rfl, fun _ => ⟨g, 0, rfl, fun k hk => ?_⟩⟩
    obtain ⟨c1, c2, c3, c4⟩ := rectCells_at l k hk
    refine ⟨?_, ?_, ?_, ?_⟩
    · have := cs _ _ c1; rw [add_at] at this; simpa using this
    · have := cs _ _ c2; rw [add_at] at this; simpa using this
    · have := cs _ _ c3; rw [add_at] at this; simpa using this
    · have := cs _ _ c4; rw [add_at] at this; simpa using this

theorem rc_take (O : List (Int × Int × List (Int × Int))) (k : Nat) (h : k < O.length) : rc (O.take (k + 1)) = rc (O.take k) ++ O[k].2.2.map fun s => (s.1, O[k].1, s.2, O[k].2.1) := by
  unfold rc
  rw [List.take_succ_eq_append_getElem h, List.flatMap_append]
  simp

theorem rc_len {O : List (Int × Int × List (Int × Int))} (hO : Good O) (k : Nat) : (rc (O.take k)).length ≤ k * 2001 := by
  induction k with
  | zero => simp [rc]
  | succ k ih =>
    by_cases h : k < O.length
    · rw [rc_take O k h, List.length_append, List.length_map]
      have := (hO.sp O[k] (List.getElem_mem h)).1.len
      rw [Nat.add_mul, Nat.one_mul]
      exact Nat.add_le_add ih this
    · rw [List.take_of_length_le (by omega)] at ih ⊢
      exact Nat.le_trans ih (Nat.mul_le_mul_right _ (Nat.le_succ k))

theorem rectInfo : (Tryz.prog.info? 53).map (fun i => (i.zero, i.size, i.bytes)) = some (some (.agg #[.int .i64 0, .int .i64 0, .int .i64 0, .int .i64 0]), 4, 32) := by kernel_rfl

set_option maxRecDepth 100000 in
set_option maxHeartbeats 2000000 in
theorem rects_any (O : List (Int × Int × List (Int × Int))) (u : Value) (w : World) (h : BandsAt w u O) (hO : Good O) :
    Calls Tryz.prog 77 #[.agg #[u]] w fun e w' => ∃ v, e = .returned v ∧ OwnR w' w.heap.size v (rc O) ∧ Below w.heap.size w w' := by
  have HO := hide hO
  have HU := hide h
  have hlen := hO.len
  obtain ⟨ua, un, uc, rfl⟩ := h.form
  obtain ⟨n, hn⟩ : ∃ n, O.length = n := ⟨_, rfl⟩
  have hun : un = n := by
    rcases h with ⟨h, h0⟩ | ⟨_, _, h, _⟩
    · simp at h; rw [← hn, h0, h.2.1]; rfl
    · simp at h; omega
  subst hun
  have HN := hide hn
  rw [hn] at hlen
  clear hO h hn
  obtain ⟨i0, hi0, hz0, hz1, hz2⟩ := info_parts rectInfo
  go_enter Tryz.func77, Tryz.ntmps77
  go_wp2
  go_loopg [3, 11] un (fun g s3 s11 wr => ∃ k : Nat, s11 = .int .i64 k ∧ g + k = un ∧ OwnR wr w.heap.size s3 (rc (O.take k)) ∧ Below w.heap.size w wr)
  case atStart => exact ⟨0, rfl, by omega, ⟨World.ownsRow_nil _ _ _ _, fun _ => rfl⟩, (Below.refl _ _).alloc (Nat.le_refl _) _⟩
  case round =>
    rename World => wo
    rename Nat => gO
    obtain ⟨k, rfl, hgk, hown, hbel⟩ := hrel
    obtain ⟨ra, rcp, rfl⟩ := hown.form
    cases gO with
    | zero =>
      have hlt : ¬ (k : Int) < (un : Int) := by omega
      have HE := hide (And.intro hown hbel)
      clear hown hbel
      go_wp2
      go_ret
      refine ⟨_, rfl, ?_, HE.out.2⟩
      have := HE.out.1
      rw [List.take_of_length_le (by have := HN.out; omega)] at this
      rw [List.take_of_length_le (by have := HN.out; omega)]
      exact this
    | succ g =>
      have hkl : k < O.length := by have := HN.out; omega
      have hlt : (k : Int) < (un : Int) := by omega
      have hltn : k < un := by omega
      rcases HU.out with ⟨h, h0⟩ | ⟨b, c, h, hne, hc⟩
      · simp [h0] at hkl
      · simp at h
        obtain ⟨rfl, h2, rfl⟩ := h
        obtain ⟨c1, c2, us, c3, hsp⟩ := hc k hkl
        have hbl := cell_lt c1
        obtain ⟨sa, sc, hus, hsc⟩ := hsp.len
        have hspl := (HO.out.sp O[k] (List.getElem_mem hkl)).1.len
        obtain ⟨⟨top, bot, L⟩, hB⟩ : ∃ b, O[k] = b := ⟨_, rfl⟩
        rw [hB] at c1 c2 hsp hus hsc hspl
        simp only at c1 c2 hsp hus hsc hspl
        subst hus
        replace c1 := (hbel.cell hbl).trans c1
        replace c2 := (hbel.cell hbl).trans c2
        replace c3 := (hbel.cell hbl).trans c3
        have hzb := cell_lt c1
        obtain ⟨ln, hln⟩ : ∃ n, L.length = n := ⟨_, rfl⟩
        rw [hln] at c3 hspl
        have HSp := hide hsp
        have HSc := hide hsc
        have HL := hide hln
        have HB := hide hB
        have HE := hide (And.intro hown hbel)
        have hLen := rc_len HO.out k
        clear hsp hsc hln hB hc h2 hne hown hbel HU
        obtain ⟨lr, hlr⟩ : ∃ n, (rc (O.take k)).length = n := ⟨_, rfl⟩
        rw [hlr] at hLen ⊢
        have HLr := hide hlr
        clear hlr
        go_wp2
        have hso := HE.out.2.size
        go_loopg [3, 18] ln (fun g s3 s18 wx => ∃ j : Nat, s18 = .int .i64 j ∧ g + j = ln ∧ OwnR wx w.heap.size s3 (rc (O.take k) ++ (L.take j).map fun s => (s.1, top, s.2, bot)) ∧ wx.heap[wo.heap.size]? = some (.cells #[.int .i64 top, .int .i64 bot, .slice sa ln sc] 192 (0, 0)) ∧ Below w.heap.size w wx)
        case atStart =>
          refine ⟨0, rfl, by omega, ?_, heap_alloc_new wo _, HE.out.2.alloc hso _⟩
          have := HE.out.1
          rw [HLr.out] at this
          simpa using this.alloc _
        case round =>
          obtain ⟨j, rfl, hgj, hown, hbox, hbx⟩ := hrel
          obtain ⟨rb, rcb, rfl⟩ := hown.form
          obtain ⟨mm, hmm⟩ : ∃ n, (rc (O.take k) ++ (L.take j).map fun s => (s.1, top, s.2, bot)).length = n := ⟨_, rfl⟩
          have hmm2 : mm = lr + j := by
            rw [← hmm, List.length_append, HLr.out, List.length_map, List.length_take]
            have := HL.out
            omega
          rw [hmm]
          have HMM := hide hmm
          cases gk with
          | zero =>
            have hjl : ¬ (j : Int) < (ln : Int) := by omega
            have HX := hide (And.intro hown hbx)
            have HM2 := hide hmm2
            clear hown hbx hmm hmm2 hbox
            go_wp2
            go_roundg g
            case measure => omega
            case rel =>
              refine ⟨k + 1, by go_num, by omega, ?_, HX.out.2⟩
              have htk : L.take j = L := List.take_of_length_le (by have := HL.out; omega)
              have := HX.out.1
              rw [HMM.out, htk] at this
              rw [rc_take O k hkl, HB.out]
              exact this
          | succ gj =>
            have hjl : (j : Int) < (ln : Int) := by omega
            have hjln : j < ln := by omega
            obtain ⟨sb, rfl, hcs⟩ := HSc.out (by have := HL.out; omega)
            obtain ⟨d1, d2⟩ := hcs j (by have := HL.out; omega)
            have hsb := cell_lt d1
            obtain ⟨⟨f, t⟩, hft⟩ : ∃ s, L.getD j (0, 0) = s := ⟨_, rfl⟩
            rw [hft] at d1 d2
            simp only at d1 d2
            replace d1 := (hbx.cell hsb).trans d1
            replace d2 := (hbx.cell hsb).trans d2
            have hzs := cell_lt d1
            have e0 : wr.cell? ⟨wo.heap.size, 0, none⟩ = some (.int .i64 top) := cell_of_row _ _ 0 _ _ _ hbox
            have e1 : wr.cell? ⟨wo.heap.size, 1, none⟩ = some (.int .i64 bot) := cell_of_row _ _ 1 _ _ _ hbox
            have hzo := cell_lt e0
            have hwl := hbx.size
            have HX := hide (And.intro hown (And.intro hbox hbx))
            have HF := hide hft
            have hb1 : mm ≤ 10000000 := by omega
            have HM2 := hide hmm2
            clear hown hbx hmm hmm2 hbox hcs hft
            go_wp2_with (at_builtin; refine wpList_append_lies _ rfl _ _ 33 rfl w.heap.size 53 i0 _ 4 32 Tryz.underlying33 hi0 hz0 hz1 hz2 rfl (by omega) (.slice rb mm rcb) mm (rectCells (rc (O.take k) ++ (L.take j).map fun s => (s.1, top, s.2, bot))) rfl (by have := HX.out.1; have h2 := HMM.out; rw [h2] at this; have h3 := this.1; rw [h2] at h3; exact (h3.alloc _).alloc _) ⟨wr.heap.size + 1, 0, none⟩ 1 1 [.int .i64 f, .int .i64 top, .int .i64 t, .int .i64 bot] rfl rfl (World.news_of_block (cs := #[.int .i64 f, .int .i64 top, .int .i64 t, .int .i64 bot]) (t := 53) (fr := (0, 0)) (boxed_new wr _ _ 0)) (by simp [Value.oneCell']) (by omega) (by unfold maxLen; omega) (by omega) (by simp; omega) _ rfl ?_; intro gg cp w1 hown1 hgrow hat hlt2; have HO1 := hide hown1; have HG1 := hide hgrow; clear hown1 hgrow hat)
            go_roundg gj
            case measure => omega
            case rel =>
              have hjL : j < L.length := by have := HL.out; omega
              have hLj : L[j] = (f, t) := by
                have := HF.out
                rw [List.getD_eq_getElem?_getD, List.getElem?_eq_getElem hjL] at this
                simpa using this
              have hl2 : (rc (O.take k) ++ (L.take (j + 1)).map fun s => (s.1, top, s.2, bot)) = (rc (O.take k) ++ (L.take j).map fun s => (s.1, top, s.2, bot)) ++ [(f, top, t, bot)] := by
                rw [List.take_succ_eq_append_getElem hjL, List.map_append, hLj, List.append_assoc]
                rfl
              obtain ⟨hown, hbox, hbx⟩ := HX.out
              rw [HMM.out] at hown
              have hown2 := ((hown.alloc (.cells #[.int .i64 f, .int .i64 t] 194)).alloc (.cells #[.int .i64 f, .int .i64 top, .int .i64 t, .int .i64 bot] 53)).1
              refine ⟨j + 1, by go_num, by omega, ?_, ?_, ?_⟩
              · rw [hl2]
                refine ⟨?_, fun h => by simp at h⟩
                rw [List.length_append, HMM.out, rectCells_append]
                exact HO1.out
              · have hb2 : ((wr.alloc (.cells #[.int .i64 f, .int .i64 t] 194)).alloc (.cells #[.int .i64 f, .int .i64 top, .int .i64 t, .int .i64 bot] 53)).heap[wo.heap.size]? = some (.cells #[.int .i64 top, .int .i64 bot, .slice (some ⟨sb, 0, none⟩) ln sc] 192 (0, 0)) := by
                  rw [heap_old _ _ _ (by simp; omega), heap_old _ _ _ (by omega)]
                  exact hbox
                exact (HG1.out.block _ (block_lt hb2) (not_own hown2 hb2 (by decide))).trans hb2
              · exact ((hbx.alloc hwl _).alloc (by simp; omega) _).grown HG1.out (by simp; omega) fun k hk => (hown2.lt k hk).1

end Go.Proofs.YtofinpocigbbeaaGreat
