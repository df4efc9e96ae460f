import Derived.Test.YtlaflopimpnjpaaGreatSg28
/-! RefJ -/
namespace Go.Proofs.YtlaflopimpnjpaaGreat
open Go.RowKit
attribute [local go_sem ↓] Go.wp_at_zero Go.wp_at_succ

/-- A list of pixels in memory. -/
def PixAt (w : World) (v : Value) (l : List R4) : Prop :=
  ∃ a c, v = .slice a l.length c ∧ (0 < l.length → l.length ≤ c ∧ ∃ b off, a = some ⟨b, off, none⟩ ∧ ∀ k (h : k < l.length), w.cell? ⟨b, off + k * 4, none⟩ = some (.int .u8 l[k].1) ∧ w.cell? ⟨b, off + k * 4 + 1, none⟩ = some (.int .u8 l[k].2.1) ∧ w.cell? ⟨b, off + k * 4 + 2, none⟩ = some (.int .u8 l[k].2.2.1) ∧ w.cell? ⟨b, off + k * 4 + 3, none⟩ = some (.int .u8 l[k].2.2.2))

theorem PixAt.keep {w w' : World} {v : Value} {l : List R4} (h : PixAt w v l) (hk : ∀ b, v.ownBlock = some b → b < w.heap.size → w'.heap[b]? = w.heap[b]?) : PixAt w' v l := by
  obtain ⟨a, c, hv, hc⟩ := h
  refine ⟨a, c, hv, fun hl => ?_⟩
  obtain ⟨hlc, b, off, ha, hcs⟩ := hc hl
  refine ⟨hlc, b, off, ha, fun k hk2 => ?_⟩
  obtain ⟨h1, h2, h3, h4⟩ := hcs k hk2
  have hlt := cell_lt h1
  have hbl := hk b (by rw [hv, ha]; rfl) hlt
  exact ⟨(World.cell?_of_block hbl).trans h1, (World.cell?_of_block hbl).trans h2, (World.cell?_of_block hbl).trans h3, (World.cell?_of_block hbl).trans h4⟩

theorem PixAt.below {w w' : World} {v : Value} {l : List R4} (h : PixAt w v l) (hb : Below w.heap.size w w') : PixAt w' v l := h.keep fun b _ hl => hb.block b hl

def fitP (r : R4) : Bool := fitB r.1 r.2.1 r.2.2.1 r.2.2.2

def pixCells (l : List R4) : List Value := l.flatMap fun r => [.int .u8 r.1, .int .u8 r.2.1, .int .u8 r.2.2.1, .int .u8 r.2.2.2]

theorem pixCells_len (l : List R4) : (pixCells l).length = l.length * 4 := by
  unfold pixCells
  induction l with
  | nil => rfl
  | cons a l ih => rw [List.flatMap_cons, List.length_append, ih]; simp; omega

theorem pixCells_append (l m : List R4) : pixCells (l ++ m) = pixCells l ++ pixCells m := by unfold pixCells; rw [List.flatMap_append]

theorem pixCells_u8 (l : List R4) : ∀ x ∈ pixCells l, ∃ a : Int, x = .int .u8 a := by
  intro x hx
  unfold pixCells at hx
  rw [List.mem_flatMap] at hx
  obtain ⟨r, _, hx⟩ := hx
  simp at hx
  rcases hx with rfl | rfl | rfl | rfl <;> exact ⟨_, rfl⟩

theorem pixInfo : (Tryz.prog.info? 55).map (fun i => (i.zero, i.size, i.bytes)) = some (some (.agg #[.int .u8 0, .int .u8 0, .int .u8 0, .int .u8 0]), 4, 4) := by kernel_rfl

/-- The buffer that was asked for. -/
theorem ref_attached {w w2 : World} {S : Nat → Prop} {c : Nat} {st : St} {bv ov : Value} {F : Nat → Nat → Value} {g cap i n : Nat} {a : Option Addr} {vc : Nat} {l : List R4} {W H : Int} (hb : Below w.heap.size w w2) (hr : RRaw w2 S c st.w st.h st.sfs.length st.order bv (.slice (some ⟨g, 0, none⟩) st.sfs.length cap) ov F) (hs : RSem w2 S st F) (hi : i < st.sfs.length) (hn : (n : Int) = W * H) (hv : w2.ownsRow w.heap.size 55 4 (.slice a n vc) n (pixCells l)) :
    RPost S c (0, upd st i (sfBuf W H)) w (.returned (.int .i64 0)) (((w2.setCell ⟨g, i * 28 + 13, none⟩ (.int .i64 W)).setCell ⟨g, i * 28 + 14, none⟩ (.int .i64 H)).setCell ⟨g, i * 28 + 15, none⟩ (.slice a n vc)) := by
  obtain ⟨e2, cur, hcur⟩ := hr.gType
  have hr2 := ((hr.set hi (show 13 < 28 by omega) (.int .i64 W)).set hi (show 14 < 28 by omega) (.int .i64 H)).set hi (show 15 < 28 by omega) (.slice a n vc)
  have hpk := pk_set (j := i * 28 + 15) (u := .slice a n vc) hcur (pk_set (j := i * 28 + 14) (u := .int .i64 H) hcur (pk_set (j := i * 28 + 13) (u := .int .i64 W) hcur (w' := w2) fun _ _ _ => rfl))
  have q := hs.rel i hi
  have hz := hb.size
  have hsz : (((w2.setCell ⟨g, i * 28 + 13, none⟩ (.int .i64 W)).setCell ⟨g, i * 28 + 14, none⟩ (.int .i64 H)).setCell ⟨g, i * 28 + 15, none⟩ (.slice a n vc)).heap.size = w2.heap.size := by simp
  have hS : ∀ b, S b → grow S w (((w2.setCell ⟨g, i * 28 + 13, none⟩ (.int .i64 W)).setCell ⟨g, i * 28 + 14, none⟩ (.int .i64 H)).setCell ⟨g, i * 28 + 15, none⟩ (.slice a n vc)) b := fun _ h => grow_self h
  refine ⟨rfl, RefOk.of_upd (hr2.mono hS) hi hs (fun j hj => by simp only [upF_ne _ _ _ _ hj]) hS hpk ?_ ?_ ?_, ?_⟩
  · simp only [upF_at]
    exact ⟨q.alive, q.parent, q.nw, q.nh, q.nx, q.ny, q.ncut, q.n0, q.n1, q.n2, q.n3, q.nhint, rfl, rfl, q.xx, q.xy, q.xcut, q.x0, q.x1, q.x2, q.x3, q.xhint, q.ask, q.sib, q.above, q.kept⟩
  · simp only [upF_at]
    exact ((hs.pixN i hi).mono hS).other hpk
  · simp only [upF_at]
    have hp : PixRow w2 (grow S w (((w2.setCell ⟨g, i * 28 + 13, none⟩ (.int .i64 W)).setCell ⟨g, i * 28 + 14, none⟩ (.int .i64 H)).setCell ⟨g, i * 28 + 15, none⟩ (.slice a n vc))) (.slice a n vc) (W * H) :=
      ⟨n, pixCells l, hn, ⟨⟨hv.1, hv.2.imp (fun h => h) fun ⟨g, c, cur, e1, _, e3⟩ => ⟨g, c, cur, e1, Nat.zero_le _, e3⟩⟩, fun b hb2 => .inr ⟨(hv.lt b hb2).1, by rw [hsz]; exact (hv.lt b hb2).2⟩⟩, pixCells_u8 l⟩
    exact hp.other hpk
  · have h0 : Only S w w2 := Only.below hb
    exact ((h0.set (.inl e2) _).set (.inl e2) _).set (.inl e2) _

set_option maxRecDepth 100000 in
set_option maxHeartbeats 2000000 in
/-- (*Screen).Attach -/
theorem refAttach_any {S : Nat → Prop} {c : Nat} {st : St} (hw : Wf st) (id W H : Int) (l : List R4) (v : Value) (w : World) (h : RefOk w S c st) (hl : PixAt w v l) (hlen : l.length ≤ maxLen) :
    Calls Tryz.prog 75 #[.pointer (some ⟨c, 0, none⟩), .int .i64 id, .int .i64 W, .int .i64 H, v] w (RPost S c (opAttach st id W H l.length (l.all fitP)) w) := by
  obtain ⟨i0, hi0, hz0, hz1, hz2⟩ := info_parts pixInfo
  have hIs := is_any (S := S) (c := c) (st := st) id w h hw.made
  have hB := isB_iff hw id
  have HE := hide (fun er W (hW : Below w.heap.size w W) => RPost.same (er := er) h hW)
  have HL := hide hl
  unfold opAttach
  obtain ⟨t, ht⟩ : ∃ t, st.isB id = t := ⟨_, rfl⟩
  rw [ht] at hIs hB ⊢
  clear ht
  obtain ⟨va, vc, hv, _⟩ := hl
  obtain ⟨n, hn⟩ : ∃ n, l.length = n := ⟨_, rfl⟩
  rw [hn] at hv hlen
  rw [hn]
  subst hv
  have HN := hide hn
  unfold maxLen at hlen
  have HI := hide hIs
  clear hIs hn
  cases t with
  | false =>
    rw [if_neg (by simp)]
    clear hB h
    go_enter Tryz.func75, Tryz.ntmps75
    go_wp2_with (go_at_call 51; refine HI.out.mono ?_; rintro e w' ⟨rfl, hw'⟩; replace hw' := hw'.symm; subst hw')
    go_ret
    exact HE.out 6 _ (Below.refl _ _)
  | true =>
    rw [if_pos rfl]
    obtain ⟨i, rfl, hio⟩ := hB.1 rfl
    have hil := hw.lt hio
    rw [Int.toNat_natCast]
    by_cases hsz : 0 ≤ W ∧ W ≤ 24 ∧ 0 ≤ H ∧ H ≤ 24
    · rw [if_pos hsz]
      obtain ⟨hW0, hW1, hH0, hH1⟩ := hsz
      have hWH : 0 ≤ W * H ∧ W * H ≤ 24 * 24 := ⟨Int.mul_nonneg hW0 hH0, Int.mul_le_mul hW1 hH1 hH0 (by omega)⟩
      have w1 : IntKind.i64.wrap (W * H) = W * H := by rw [IntKind.wrap_i64]; omega
      obtain ⟨WH, hWHe⟩ : ∃ z, W * H = z := ⟨_, rfl⟩
      rw [hWHe] at w1 hWH ⊢
      by_cases hnn : (n : Int) = WH
      · subst hnn
        have w2 : ((n : Int) != wrap64 (W * H)) = false := by
          have e : wrap64 (W * H) = (n : Int) := by rw [hWHe]; unfold wrap64; omega
          rw [e]; simp
        obtain ⟨bv, sv, ov, F, hr, hs⟩ := h
        obtain ⟨g, cap, e1, e2, e3, e4, e5, e6⟩ := hr.at (by omega)
        subst e1
        obtain ⟨_, cur, hcur⟩ := hr.gType
        have hne : ¬ c = g := ne_of_type hr.scr hcur (by decide)
        have hne2 : g ≠ c := fun e => hne e.symm
        have hcl := (Array.getElem?_eq_some_iff.1 hr.scr).1
        have HR := hide (And.intro hr (And.intro hs hil))
        have HWH := hide hWHe
        have hmd := hw.made
        obtain ⟨nS, hnS⟩ : ∃ x, st.sfs.length = x := ⟨_, rfl⟩
        have HC : Hid (∀ W', Below w.heap.size w W' → W'.cell? ⟨c, 3, none⟩ = some (.slice (some ⟨g, 0, none⟩) nS cap) ∧ (∀ o, o < 28 → W'.cell? ⟨g, i * 28 + o, none⟩ = some (F i o)) ∧ ∀ j, W'.frozen? ⟨g, j, none⟩ = false) := fun W' hW => by
          have r2 := hr.below hW
          obtain ⟨k0, k1, k2, k3, k4, kf, kl⟩ := r2.cells
          obtain ⟨g', cap', q1, q2, q3, q4, q5, q6⟩ := r2.at (by omega)
          injection q1 with q11 q12 q13
          injection q11 with q11
          injection q11 with q11
          subst q11
          rw [hnS] at k3
          exact ⟨k3, fun o ho => q5 i hil o ho, q6⟩
        rw [hnS] at e3 hmd
        have hin : i < nS := by omega
        have hicap : i < cap := by omega
        have hn576 : n ≤ 576 := by omega
        have HIf : Hid (∀ e w', (l.all fitP = true → RPost S c (0, upd st i (sfBuf W H)) w e w') → (l.all fitP = false → RPost S c (4, st) w e w') → RPost S c (if (n : Int) = (n : Int) ∧ l.all fitP = true then (0, upd st i (sfBuf W H)) else (4, st)) w e w') := fun e w' h1 h2 => by
          cases hb : l.all fitP with
          | true => rw [if_pos ⟨rfl, rfl⟩]; exact h1 hb
          | false => rw [if_neg (by simp)]; exact h2 hb
        obtain ⟨post, hpost⟩ : ∃ P, P = RPost S c (if (n : Int) = (n : Int) ∧ l.all fitP = true then (0, upd st i (sfBuf W H)) else (4, st)) w := ⟨_, rfl⟩
        rw [← hpost] at HIf ⊢
        clear hr hs e5 e6 hcur hB hnS hpost hWHe hil
        go_enter Tryz.func75, Tryz.ntmps75
        go_wp2_with (go_at_call 51; refine HI.out.mono ?_; rintro e w' ⟨rfl, hw'⟩; replace hw' := hw'.symm; subst hw')
        go_loopg [12, 13] n (fun gg s12 s13 wr => ∃ k : Nat, s13 = .int .i64 k ∧ gg + k = n ∧ wr.ownsRow w.heap.size 55 4 s12 k (pixCells (l.take k)) ∧ (∀ r ∈ l.take k, fitP r = true) ∧ Below w.heap.size w wr)
        case atStart => exact ⟨0, rfl, by omega, World.ownsRow_nil _ _ _ _, fun r hr => by simp at hr, Below.refl _ _⟩
        case round =>
          rename World => wr
          obtain ⟨k, rfl, hgk, hown, hfit, hbel⟩ := hrel
          obtain ⟨ra, rc, hrf⟩ := row_form hown
          subst hrf
          have hsz9 := hbel.size
          have HO := hide (And.intro hown (And.intro hfit hbel))
          cases gk with
          | zero =>
            have hlt : ¬ (k : Int) < (n : Int) := by omega
            have hkn : k = n := by omega
            subst hkn
            obtain ⟨y3, yc, yf⟩ := HC.out wr hbel
            have c13 := yc 13 (by omega)
            have c14 := yc 14 (by omega)
            have c15 := yc 15 (by omega)
            have f13 := yf (i * 28 + 13)
            have f14 := yf (i * 28 + 14)
            have f15 := yf (i * 28 + 15)
            clear yc yf hown hfit hbel
            go_wp2
            try go_ret
            refine HIf.out _ _ (fun _ => ?_) (fun hno => ?_)
            · have hfull : l.take k = l := List.take_of_length_le (by have := HN.out; omega)
              have ho := HO.out.1
              rw [hfull] at ho
              exact ref_attached HO.out.2.2 (HR.out.1.below HO.out.2.2) (HR.out.2.1.below HO.out.2.2) HR.out.2.2 HWH.out.symm ho
            · exfalso
              have hfull : l.take k = l := List.take_of_length_le (by have := HN.out; omega)
              have ho := HO.out.2.1
              rw [hfull] at ho
              rw [List.all_eq_true.2 ho] at hno
              cases hno
          | succ gk =>
            have hlt : (k : Int) < (n : Int) := by omega
            have hkL : k < l.length := by have := HN.out; omega
            obtain ⟨xa, xc, hxv, hx⟩ := HL.out.below hbel
            injection hxv with hx1 hx2 hx3
            subst hx1 hx3
            obtain ⟨hlc, b, off, rfl, hcs⟩ := hx (by omega)
            rw [HN.out] at hlc
            obtain ⟨c1, c2, c3, c4⟩ := hcs k hkL
            obtain ⟨⟨p0, p1, p2, p3⟩, hp⟩ : ∃ p, l[k] = p := ⟨_, rfl⟩
            rw [hp] at c1 c2 c3 c4
            simp only at c1 c2 c3 c4
            have hFt := fits_any p0 p1 p2 p3
            obtain ⟨t, ht⟩ : ∃ t, fitB p0 p1 p2 p3 = t := ⟨_, rfl⟩
            rw [ht] at hFt
            have HFt := hide hFt
            have hbl := cell_lt c1
            have hkc : k < vc := by omega
            have HP := hide (And.intro hp (And.intro ht hkL))
            clear hown hfit hbel hcs hx hp ht hFt hx2
            cases t with
            | false =>
              go_wp2_with (go_at_call 100; refine (HFt.out _).mono ?_; rintro e w5 ⟨rfl, he5⟩; have HB5 := hide he5; clear he5)
              try go_ret
              refine HIf.out _ _ (fun hyes => ?_) (fun _ => ?_)
              · exfalso
                have h9 := List.all_eq_true.1 hyes _ (List.getElem_mem HP.out.2.2)
                rw [HP.out.1] at h9
                have h8 : fitB p0 p1 p2 p3 = true := h9
                rw [HP.out.2.1] at h8
                cases h8
              · exact HE.out 4 _ (by rw [HB5.out]; exact HO.out.2.2.alloc hsz9 _)
            | true =>
              go_wp2_with (first
                | (go_at_call 100; refine (HFt.out _).mono ?_; rintro e w5 ⟨rfl, he5⟩; have hbl5 : b < w5.heap.size := (by rw [he5]; simp; omega); have hs5 : w.heap.size ≤ w5.heap.size := (by rw [he5]; simp; omega); have d1 := (congrArg (fun W => World.cell? W ⟨b, off + k * 4, none⟩) he5).trans ((cell_old wr _ b (off + k * 4) hbl).trans c1); have d2 := (congrArg (fun W => World.cell? W ⟨b, off + k * 4 + 1, none⟩) he5).trans ((cell_old wr _ b (off + k * 4 + 1) hbl).trans c2); have d3 := (congrArg (fun W => World.cell? W ⟨b, off + k * 4 + 2, none⟩) he5).trans ((cell_old wr _ b (off + k * 4 + 2) hbl).trans c3); have d4 := (congrArg (fun W => World.cell? W ⟨b, off + k * 4 + 3, none⟩) he5).trans ((cell_old wr _ b (off + k * 4 + 3) hbl).trans c4); have HB5 := hide he5; clear he5)
                | (at_builtin; refine wpList_append_row (P := Tryz.prog) rfl (.tmp 54) (.tmp 59) 39 rfl w.heap.size 55 i0 _ 4 4 Tryz.underlying39 hi0 hz0 hz1 hz2 rfl (by decide) (.slice ra k rc) k (pixCells (l.take k)) rfl (by have h9 := HO.out.1.alloc (.cells #[.int .u8 p0, .int .u8 p1, .int .u8 p2, .int .u8 p3] 55); rw [← HB5.out] at h9; exact h9.alloc _) (.slice (some ⟨w5.heap.size, 0, none⟩) 1 1) 1 [.int .u8 p0, .int .u8 p1, .int .u8 p2, .int .u8 p3] rfl rfl (.inr ⟨_, _, rfl, World.news_of_block (cs := #[.int .u8 p0, .int .u8 p1, .int .u8 p2, .int .u8 p3]) (t := 55) (fr := (0, 0)) (heap_alloc_new w5 _)⟩) (by simp [Value.oneCell']) (by unfold maxLen; omega) (by omega) (by simp; omega) ?_; intro v6 w6 ho6 hg6 hn6 ha6; have HB6 := hide (((by rw [HB5.out]; exact HO.out.2.2.alloc hsz9 _ : Below w.heap.size w w5).alloc hs5 _).grown hg6 (by simp; omega) (fun k hk => (HO.out.1.lt k hk).1)); have HO6 := hide ho6; clear ho6 hg6 hn6 ha6))
              go_roundg gk
              case measure => omega
              case rel =>
                have hkL := HP.out.2.2
                have e9 : l.take (k + 1) = l.take k ++ [(p0, p1, p2, p3)] := by rw [List.take_succ_eq_append_getElem hkL, HP.out.1]
                refine ⟨k + 1, by go_num, by omega, ?_, fun r hr => ?_, HB6.out⟩
                · rw [e9, pixCells_append]
                  exact HO6.out
                · rw [e9, List.mem_append, List.mem_singleton] at hr
                  rcases hr with hr | rfl
                  · exact HO.out.2.1 r hr
                  · exact HP.out.2.1
      · rw [if_neg (fun hh => hnn hh.1)]
        clear hB h
        go_enter Tryz.func75, Tryz.ntmps75
        go_wp2_with (go_at_call 51; refine HI.out.mono ?_; rintro e w' ⟨rfl, hw'⟩; replace hw' := hw'.symm; subst hw')
        all_goals
          go_ret
          exact HE.out 4 _ (Below.refl _ _)
    · rw [if_neg hsz]
      clear hB h
      have HS := hide hsz
      have hcs : W < 0 ∨ (0 ≤ W ∧ 24 < W) ∨ (0 ≤ W ∧ W ≤ 24 ∧ H < 0) ∨ (0 ≤ W ∧ W ≤ 24 ∧ 0 ≤ H ∧ 24 < H) := by omega
      clear hsz
      rcases hcs with h1 | ⟨h1, h2⟩ | ⟨h1, h2, h3⟩ | ⟨h1, h2, h3, h4⟩
      all_goals
        go_enter Tryz.func75, Tryz.ntmps75
        go_wp2_with (go_at_call 51; refine HI.out.mono ?_; rintro e w' ⟨rfl, hw'⟩; replace hw' := hw'.symm; subst hw')
        go_ret
        exact HE.out 5 _ (Below.refl _ _)

end Go.Proofs.YtlaflopimpnjpaaGreat

/-! PanV -/
namespace Go.Proofs.YtlaflopimpnjpaaGreat
open Go.RowKit
attribute [local go_sem ↓] Go.wp_at_zero Go.wp_at_succ

set_option maxRecDepth 100000 in
set_option maxHeartbeats 1000000 in
/-- allMayBe's closure -/
theorem notMayBe_any (r : R4) (w : World) : Calls Tryz.prog 128 #[.agg #[.int .u8 r.1, .int .u8 r.2.1, .int .u8 r.2.2.1, .int .u8 r.2.2.2]] w fun e w' => e = .returned (.bool (!fitP r)) ∧ Below w.heap.size w w' := by
  have HM := hide (mayBe_any r.1 r.2.1 r.2.2.1 r.2.2.2)
  have HA := hide (fun o1 o2 => al2 (Nat.le_refl w.heap.size) o1 o2)
  go_enter Tryz.func128, Tryz.ntmps128
  go_wp2_with (go_at_call 98; refine (HM.out _).mono ?_; rintro e w' ⟨rfl, rfl⟩)
  go_ret
  exact ⟨rfl, HA.out _ _⟩

set_option maxRecDepth 100000 in
set_option maxHeartbeats 1000000 in
theorem idxP_any (l : List R4) (v : Value) (w : World) (hv : PixAt w v l) (hlen : l.length ≤ maxLen) :
    Calls Tryz.prog 135 #[v, .func (.func 128) #[] #[]] w fun e w' => ∃ r : Int, e = .returned (.int .i64 r) ∧ ((r = -1 ∧ l.all fitP = true) ∨ (0 ≤ r ∧ l.all fitP = false)) ∧ Below w.heap.size w w' := by
  unfold maxLen at hlen
  obtain ⟨res, hres⟩ : ∃ b, l.all fitP = b := ⟨_, rfl⟩
  rw [hres]
  have HRes := hide hres
  clear hres
  obtain ⟨a, c, rfl, hc⟩ := hv
  obtain ⟨m, hm⟩ : ∃ m, l.length = m := ⟨_, rfl⟩
  rw [hm] at hlen ⊢
  have H1 := hide hc
  have HM := hide hm
  clear hc hm
  go_enter Tryz.func135, Tryz.ntmps135
  go_wp2_with fail
  go_loopg [8] m (fun g s8 wr => ∃ (k : Nat), s8 = .int .i64 (k : Int) ∧ g + k = m ∧ (∀ j (h : j < l.length), j < k → fitP l[j] = true) ∧ Hid (Below w.heap.size w wr))
  case atStart => exact ⟨0, rfl, by omega, fun j _ h => absurd h (by omega), Below.refl _ _⟩
  case round =>
    obtain ⟨k, rfl, hgk, hno, HB⟩ := hrel
    have HNo := hide hno
    clear hno
    cases gk with
    | zero =>
      have hlt : ¬ (k : Int) < (m : Int) := by omega
      go_wp2_with fail
      go_ret
      refine ⟨_, rfl, .inl ⟨rfl, ?_⟩, HB.out⟩
      rw [← HRes.out, List.all_eq_true]
      intro r hr
      obtain ⟨j, hj, rfl⟩ := List.getElem_of_mem hr
      exact HNo.out j hj (by have := HM.out; omega)
    | succ g =>
      have hlt : (k : Int) < (m : Int) := by omega
      have hltn : k < m := by omega
      have hkl : k < l.length := by have := HM.out; omega
      obtain ⟨hlc, b, off, rfl, hcs⟩ := H1.out (by omega)
      obtain ⟨e1, e2, e3, e4⟩ := hcs k hkl
      have hbl := cell_lt e1
      have c1 := (HB.out.cell (p := ⟨b, off + k * 4, none⟩) hbl).trans e1
      have c2 := (HB.out.cell (p := ⟨b, off + k * 4 + 1, none⟩) hbl).trans e2
      have c3 := (HB.out.cell (p := ⟨b, off + k * 4 + 2, none⟩) hbl).trans e3
      have c4 := (HB.out.cell (p := ⟨b, off + k * 4 + 3, none⟩) hbl).trans e4
      obtain ⟨r, hr⟩ : ∃ r, l[k] = r := ⟨_, rfl⟩
      rw [hr] at c1 c2 c3 c4
      have HK := hide hr
      clear e1 e2 e3 e4 hcs hr
      have HN := hide (fun W => notMayBe_any r W)
      by_cases hin : fitP r = true
      · rw [hin] at HN
        go_wp2_with (go_at_call 128; refine (HN.out _).mono ?_; rintro e w' ⟨rfl, hb⟩; have HB2 := hide (HB.out.trans (hb.mono HB.out.size)); clear hb)
        go_roundg g
        case measure => omega
        case rel =>
          refine ⟨k + 1, by go_num, by omega, fun j hj hjk => ?_, HB2.out⟩
          by_cases e : j = k
          · subst e; rw [HK.out]; exact hin
          · exact HNo.out j hj (by omega)
      · have hin2 : fitP r = false := by simpa using hin
        rw [hin2] at HN
        go_wp2_with (go_at_call 128; refine (HN.out _).mono ?_; rintro e w' ⟨rfl, hb⟩; have HB2 := hide (HB.out.trans (hb.mono HB.out.size)); clear hb)
        go_ret
        refine ⟨_, rfl, .inr ⟨by omega, ?_⟩, HB2.out⟩
        rw [← HRes.out, List.all_eq_false]
        exact ⟨l[k], List.getElem_mem hkl, by rw [HK.out, hin2]; simp⟩

set_option maxRecDepth 100000 in
set_option maxHeartbeats 1000000 in
theorem allMayBe_any (l : List R4) (v : Value) (w : World) (hv : PixAt w v l) (hlen : l.length ≤ maxLen) :
    Calls Tryz.prog 113 #[v] w fun e w' => e = .returned (.bool (l.all fitP)) ∧ Below w.heap.size w w' := by
  have HI := hide (idxP_any l v w hv hlen)
  have HC : Hid (Calls Tryz.prog 127 #[v, .func (.func 128) #[] #[]] w fun e w' => e = .returned (.bool (!l.all fitP)) ∧ Below w.heap.size w w') := by
    go_enter Tryz.func127, Tryz.ntmps127
    go_wp2_with (go_at_call 135; refine HI.out.mono ?_; rintro e w' ⟨r, rfl, hr, hb⟩; have HB := hide (And.intro hr hb); clear hr hb)
    go_ret
    refine ⟨ret_b ?_, HB.out.2⟩
    rcases HB.out.1 with ⟨rfl, h2⟩ | ⟨h1, h2⟩
    · rw [h2]; rfl
    · rw [h2]; simpa using h1
  clear HI hv
  go_enter Tryz.func113, Tryz.ntmps113
  go_wp2_with (go_at_call 127; refine HC.out.mono ?_; rintro e w' ⟨rfl, hb⟩; have HB := hide hb; clear hb)
  go_ret
  exact ⟨ret_b (by simp), HB.out⟩

end Go.Proofs.YtlaflopimpnjpaaGreat
