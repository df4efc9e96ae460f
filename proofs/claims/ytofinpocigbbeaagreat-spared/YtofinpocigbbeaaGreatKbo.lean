import Derived.Test.YtofinpocigbbeaaGreatKbn
import Derived.Test.YtofinpocigbbeaaGreatKay
import Derived.Test.YtofinpocigbbeaaGreatKar
import Derived.Test.YtofinpocigbbeaaGreatKas
import Derived.Test.YtofinpocigbbeaaGreatKat
import Derived.Test.YtofinpocigbbeaaGreatKav
namespace Go.Proofs.YtofinpocigbbeaaGreat
open Go.RowKit
attribute [local go_sem ↓] Go.wp_at_zero Go.wp_at_succ

/-! ### The whole screen: what keeps the surfaces, and the canvas -/

structure FullM (w : World) (A B : Nat → Prop) (x : Nat) (st : St) (d : Cv) (c : Nat) : Prop where
  pane : PaneOk w A x st (ptrV c)
  cv : ∃ bv rg dv, CvMem w B c d bv rg dv
  ok : CvOk d
  dw : (d.W : Int) = st.w
  dh : (d.H : Int) = st.h
  la : ∀ g, A g → g < w.heap.size
  lb : ∀ g, B g → g < w.heap.size
  ap : ∀ g, A g → ¬ B g

def FullC (w : World) (S : Nat → Prop) (x : Nat) (st : St) (d : Cv) : Prop := ∃ A B c, FullM w A B x st d c ∧ (∀ g, A g → S g) ∧ ∀ g, B g → S g

theorem FullC.mono {w : World} {S S' : Nat → Prop} {x : Nat} {st : St} {d : Cv} (h : FullC w S x st d) (hS : ∀ g, S g → S' g) : FullC w S' x st d := by
  obtain ⟨A, B, c, h1, h2, h3⟩ := h
  exact ⟨A, B, c, h1, fun g hg => hS g (h2 g hg), fun g hg => hS g (h3 g hg)⟩

theorem FullM.keep {w w' : World} {A B : Nat → Prop} {x : Nat} {st : St} {d : Cv} {c : Nat} (h : FullM w A B x st d c) (hs : w.heap.size ≤ w'.heap.size) (hk : ∀ g, A g ∨ B g → g < w.heap.size → w'.heap[g]? = w.heap[g]?) : FullM w' A B x st d c :=
  ⟨h.pane.keep fun g hg hl => hk g (.inl hg) hl, let ⟨bv, rg, dv, q⟩ := h.cv; ⟨bv, rg, dv, q.keep fun g hg hl => hk g (.inr hg) hl⟩, h.ok, h.dw, h.dh, fun g hg => Nat.lt_of_lt_of_le (h.la g hg) hs, fun g hg => Nat.lt_of_lt_of_le (h.lb g hg) hs, h.ap⟩

theorem FullC.keep {w w' : World} {S : Nat → Prop} {x : Nat} {st : St} {d : Cv} (h : FullC w S x st d) (hs : w.heap.size ≤ w'.heap.size) (hk : ∀ g, S g → g < w.heap.size → w'.heap[g]? = w.heap[g]?) : FullC w' S x st d := by
  obtain ⟨A, B, c, h1, h2, h3⟩ := h
  exact ⟨A, B, c, h1.keep hs fun g hg hl => hk g (hg.elim (h2 g) (h3 g)) hl, h2, h3⟩

theorem FullC.below {w w' : World} {S : Nat → Prop} {x : Nat} {st : St} {d : Cv} (h : FullC w S x st d) (hb : Below w.heap.size w w') : FullC w' S x st d := h.keep hb.size fun g _ hl => hb.block g hl

/-- Behind what turns the surfaces alone. -/
theorem FullM.scene {w w' : World} {A B : Nat → Prop} {x : Nat} {st st' : St} {d : Cv} {c : Nat} (h : FullM w A B x st d c) (hp : PaneOk w' (grow A w w') x st' (ptrV c)) (ho : Only A w w') (hw : st'.w = st.w) (hh : st'.h = st.h) : FullM w' (grow A w w') B x st' d c :=
  ⟨hp, let ⟨bv, rg, dv, q⟩ := h.cv; ⟨bv, rg, dv, q.keep fun g hg hl => ho.block g hl fun ha => h.ap g ha hg⟩, h.ok, by rw [hw]; exact h.dw, by rw [hh]; exact h.dh,
    fun g hg => hg.elim (fun ha => Nat.lt_of_lt_of_le (h.la g ha) ho.size) fun q => q.2, fun g hg => Nat.lt_of_lt_of_le (h.lb g hg) ho.size, fun g hg hb => hg.elim (fun ha => h.ap g ha hb) fun q => by have := h.lb g hb; omega⟩

theorem FullM.full {w w' : World} {S A B : Nat → Prop} {x : Nat} {st : St} {d : Cv} {c : Nat} (h : FullM w' (grow A w w') B x st d c) (hA : ∀ g, A g → S g) (hB : ∀ g, B g → S g) : FullC w' (grow S w w') x st d :=
  ⟨_, _, c, h, fun g hg => hg.elim (fun q => .inl (hA g q)) fun q => .inr q, fun g hg => .inl (hB g hg)⟩

def FPost (S : Nat → Prop) (x : Nat) (d : Cv) (p : Int × St) (w : World) (e : Ending) (w' : World) : Prop := e = .returned (.int .i64 p.1) ∧ FullC w' (grow S w w') x p.2 d ∧ Only S w w'

theorem FullM.post {w w' : World} {S A B : Nat → Prop} {x : Nat} {st : St} {d : Cv} {c : Nat} {p : Int × St} {e : Ending} (h : FullM w A B x st d c) (hA : ∀ g, A g → S g) (hB : ∀ g, B g → S g) (hw : p.2.w = st.w ∧ p.2.h = st.h) (hp : PPost A x (ptrV c) p w e w') : FPost S x d p w e w' :=
  ⟨hp.1, (h.scene hp.2.1 hp.2.2 hw.1 hw.2).full hA hB, hp.2.2.mono fun g _ hg => hA g hg⟩

theorem opOffset_wh (st : St) (id x y : Int) : (opOffset st id x y).2.w = st.w ∧ (opOffset st id x y).2.h = st.h := by
  unfold opOffset; (repeat' split) <;> exact ⟨rfl, rfl⟩
theorem opClip_wh (st : St) (id : Int) (r : R4) (ok : Bool) : (opClip st id r ok).2.w = st.w ∧ (opClip st id r ok).2.h = st.h := by
  unfold opClip; (repeat' split) <;> exact ⟨rfl, rfl⟩
theorem opUnclip_wh (st : St) (id : Int) : (opUnclip st id).2.w = st.w ∧ (opUnclip st id).2.h = st.h := by
  unfold opUnclip; split <;> exact ⟨rfl, rfl⟩
theorem opStack_wh (st : St) (id s : Int) (b : Bool) : (opStack st id s b).2.w = st.w ∧ (opStack st id s b).2.h = st.h := by
  unfold opStack; (repeat' split) <;> exact ⟨rfl, rfl⟩
theorem opAttach_wh (st : St) (id a b : Int) (n : Nat) (ok : Bool) (f : Nat → R4) : (opAttach st id a b n ok f).2.w = st.w ∧ (opAttach st id a b n ok f).2.h = st.h := by
  unfold opAttach; (repeat' split) <;> exact ⟨rfl, rfl⟩

theorem fuOffset_any {S : Nat → Prop} {x : Nat} {st : St} {d : Cv} (hw : Wf st) (id a b : Int) (w : World) (h : FullC w S x st d) :
    Calls Tryz.prog 29 #[.pointer (some ⟨x, 0, none⟩), .int .i64 id, .int .i64 a, .int .i64 b] w (FPost S x d (opOffset st id a b) w) := by
  obtain ⟨A, B, c, h1, h2, h3⟩ := h
  exact (paOffset_any hw id a b w h1.pane).mono fun e w' hp => h1.post h2 h3 (opOffset_wh ..) hp

theorem fuUnclip_any {S : Nat → Prop} {x : Nat} {st : St} {d : Cv} (hw : Wf st) (id : Int) (w : World) (h : FullC w S x st d) :
    Calls Tryz.prog 36 #[.pointer (some ⟨x, 0, none⟩), .int .i64 id] w (FPost S x d (opUnclip st id) w) := by
  obtain ⟨A, B, c, h1, h2, h3⟩ := h
  exact (paUnclip_any hw id w h1.pane).mono fun e w' hp => h1.post h2 h3 (opUnclip_wh ..) hp

theorem fuClip_any {S : Nat → Prop} {x : Nat} {st : St} {d : Cv} (hw : Wf st) (id a0 a1 a2 a3 : Int) (w : World) (h : FullC w S x st d) :
    Calls Tryz.prog 35 #[.pointer (some ⟨x, 0, none⟩), .int .i64 id, .agg #[.int .i64 a0, .int .i64 a1, .int .i64 a2, .int .i64 a3]] w (FPost S x d (opClip st id (a0, a1, a2, a3) (fitR (a0, a1, a2, a3))) w) := by
  obtain ⟨A, B, c, h1, h2, h3⟩ := h
  exact (paClip_any hw id a0 a1 a2 a3 w h1.pane).mono fun e w' hp => h1.post h2 h3 (opClip_wh ..) hp

theorem fuStack_any {S : Nat → Prop} {x : Nat} {st : St} {d : Cv} (hw : Wf st) (id sb : Int) (ab : Bool) (w : World) (h : FullC w S x st d) :
    Calls Tryz.prog 38 #[.pointer (some ⟨x, 0, none⟩), .int .i64 id, .int .i64 sb, .bool ab] w (FPost S x d (opStack st id sb ab) w) := by
  obtain ⟨A, B, c, h1, h2, h3⟩ := h
  exact (paStack_any hw id sb ab w h1.pane).mono fun e w' hp => h1.post h2 h3 (opStack_wh ..) hp

theorem fuAttach_any {S : Nat → Prop} {x : Nat} {st : St} {d : Cv} (hw : Wf st) (id a b : Int) (l : List R4) (v : Value) (w : World) (h : FullC w S x st d) (hv : PixAt w v l) (hlen : l.length ≤ maxLen) :
    Calls Tryz.prog 28 #[.pointer (some ⟨x, 0, none⟩), .int .i64 id, .int .i64 a, .int .i64 b, v] w (FPost S x d (opAttach st id a b l.length (l.all fitP) fun k => l.getD k (0, 0, 0, 0)) w) := by
  obtain ⟨A, B, c, h1, h2, h3⟩ := h
  exact (paAttach_any hw id a b l v w h1.pane hv hlen).mono fun e w' hp => h1.post h2 h3 (opAttach_wh ..) hp

def FMPost (S : Nat → Prop) (x : Nat) (d : Cv) (p : Int × Int × St) (w : World) (e : Ending) (w' : World) : Prop := e = .returned (.tuple #[.int .i64 p.1, .int .i64 p.2.1]) ∧ FullC w' (grow S w w') x p.2.2 d ∧ Only S w w'

theorem opMake_wh (st : St) (p : Int) : (opMake st p).2.2.w = st.w ∧ (opMake st p).2.2.h = st.h := by
  unfold opMake; (repeat' split) <;> exact ⟨rfl, rfl⟩

theorem fuMake_any {S : Nat → Prop} {x : Nat} {st : St} {d : Cv} (hw : Wf st) (p : Int) (w : World) (h : FullC w S x st d) :
    Calls Tryz.prog 27 #[.pointer (some ⟨x, 0, none⟩), .int .i64 p] w (FMPost S x d (opMake st p) w) := by
  obtain ⟨A, B, c, h1, h2, h3⟩ := h
  refine (paMake_any hw p w h1.pane).mono fun e w' hp => ?_
  exact ⟨hp.1, (h1.scene hp.2.1 hp.2.2 (opMake_wh ..).1 (opMake_wh ..).2).full h2 h3, hp.2.2.mono fun g _ hg => h2 g hg⟩

theorem fuViews_any {S : Nat → Prop} {x : Nat} {st : St} {d : Cv} (hw : Wf st) {w : World} (h : FullC w S x st d) :
    Calls Tryz.prog 23 #[.pointer (some ⟨x, 0, none⟩)] w (ViewsPost st w) := by
  obtain ⟨A, B, c, h1, h2, h3⟩ := h
  obtain ⟨sc, mp, blk, G, hr⟩ := h1.pane
  obtain ⟨x0, x1, xl⟩ := hr.scrCells
  have HV := hide (scViews_any hw (show w.cell? ⟨sc, 0, none⟩ = some (.pointer (some ⟨blk (-1), 0, none⟩)) from hr.sceCells.1) (hr.lays hw (live_top st)) (hr.sl hw (live_top st)))
  clear hr h1 h2 h3
  unfold ptrV at x0
  go_enter Tryz.func23, Tryz.ntmps23
  go_wp2_with (go_at_call 45; refine HV.out.mono ?_; rintro e w1 hp; have HP := hide hp; obtain ⟨v, rfl, hp2⟩ := hp; clear hp2)
  go_ret
  exact HP.out

/-! ### Damages -/

def DamBy (d d' : Cv) (l : List R4) : Prop := ∃ R, d' = { d with dam := d.dam.set d.nw R } ∧ Good R ∧ ∀ x y, memR R x y = (memR ((d.dam[d.nw]?).getD []) x y || hasB l x y)

/-- A rectangle on the screen, or an empty one. -/
def OnS (W H : Int) (r : R4) : Prop := r = (0, 0, 0, 0) ∨ (0 ≤ r.1 ∧ r.1 ≤ r.2.2.1 ∧ r.2.2.1 ≤ W ∧ 0 ≤ r.2.1 ∧ r.2.1 ≤ r.2.2.2 ∧ r.2.2.2 ≤ H)

theorem OnS.fit {W H : Int} (hW : W ≤ 24) (hH : H ≤ 24) {r : R4} (h : OnS W H r) : fitR r = true := by
  unfold fitR
  rcases h with rfl | h
  · rfl
  · exact decide_eq_true (by omega)

theorem OnS.inside {W H : Int} {r : R4} (h : OnS W H r) {x y : Int} (hx : inR r x y = true) : inR (0, 0, W, H) x y = true := by
  unfold inR at *
  have hx := of_decide_eq_true hx
  refine decide_eq_true ?_
  simp only
  rcases h with rfl | h
  · simp only at hx; omega
  · omega

theorem seen_on (st : St) (i : Nat) (h : has4 (st.seen i) = true) : OnS st.w st.h (st.seen i) := by
  have hs := seen_scr st i
  unfold has4 at h
  have h := of_decide_eq_true h
  exact .inr (by omega)

theorem vis_on (st : St) (p : Int) : ∀ r ∈ (st.visAll p).map st.seen, OnS st.w st.h r := by
  intro r hr
  obtain ⟨i, hi, rfl⟩ := List.mem_map.1 hr
  refine seen_on st i ?_
  unfold St.visAll St.visP at hi
  rcases List.mem_append.1 hi with hi | hi
  · split at hi
    · cases hi
    · exact (List.mem_filter.1 hi).2
  · exact (List.mem_filter.1 hi).2

theorem foldTo_keeps {P : R4 → Prop} {step : Nat → R4 → R4} : ∀ (m : Nat) (h : R4), P h → (∀ a h, a < m → P h → P (step a h)) → P (foldTo step m h)
  | 0, h, h0, _ => h0
  | m + 1, h, h0, hs => hs m _ (by omega) (foldTo_keeps m h h0 fun a h ha => hs a h (by omega))

theorem hull_on {W H : Int} {p q : R4} (hp : OnS W H p) (hq : OnS W H q) : OnS W H (hull p q) := by
  unfold hull
  split
  · split
    · rename_i h1 h2
      have e1 : p ≠ (0, 0, 0, 0) := fun e => by subst e; simp [pts] at h1
      have e2 : q ≠ (0, 0, 0, 0) := fun e => by subst e; simp [pts] at h2
      have a := hp.resolve_left e1
      have b := hq.resolve_left e2
      refine .inr ?_
      simp only
      omega
    · exact hp
  · exact hq

theorem other_on {W H : Int} (p : Int → Int → Bool) {R : R4} (h : 0 ≤ R.1 ∧ 0 ≤ R.2.1 ∧ R.2.2.1 ≤ W ∧ R.2.2.2 ≤ H) : OnS W H (otherIn p R) := by
  unfold otherIn otherTo
  refine foldTo_keeps (P := OnS W H) _ _ (.inl rfl) fun b q hb hq => ?_
  unfold otherRow
  refine foldTo_keeps (P := OnS W H) _ _ hq fun a q ha hq => ?_
  split
  · refine hull_on hq (.inr ?_)
    simp only
    omega
  · exact hq

theorem cmDam_on {st : St} {i : Nat} : ∀ r ∈ st.cmDam i, OnS st.w st.h r := by
  intro r hr
  unfold St.cmDam at hr
  split at hr
  · rcases List.mem_append.1 hr with hr | hr
    · exact vis_on st _ r hr
    · exact vis_on (cm st i) _ r hr
  · rw [List.mem_singleton] at hr
    subst hr
    exact other_on (W := st.w) (H := st.h) _ (seen_scr (cm st i) i)

theorem DamBy.ok {d d' : Cv} {l : List R4} (h : DamBy d d' l) (hd : CvOk d) (hl : ∀ r ∈ l, OnS d.W d.H r) : CvOk d' := by
  obtain ⟨R, rfl, hG, hm⟩ := h
  refine ⟨hd.w1, hd.h1, hd.n, hd.nw, by simp [hd.ln], fun Q hQ => ?_, hd.age, fun Q hQ x y hxy => ?_, hd.apart⟩
  · rcases List.mem_or_eq_of_mem_set hQ with hQ | rfl
    · exact hd.good Q hQ
    · exact hG
  · rcases List.mem_or_eq_of_mem_set hQ with hQ | rfl
    · exact hd.inside Q hQ x y hxy
    · rw [hm, Bool.or_eq_true] at hxy
      rcases hxy with hxy | hxy
      · have hlt : d.nw < d.dam.length := by rw [hd.ln]; exact hd.nw
        rw [List.getElem?_eq_getElem hlt] at hxy
        exact hd.inside _ (List.getElem_mem hlt) x y hxy
      · unfold hasB at hxy
        obtain ⟨r, hr, hx⟩ := List.any_eq_true.1 hxy
        exact (hl r hr).inside hx

end Go.Proofs.YtofinpocigbbeaaGreat

namespace Go.Proofs.YtofinpocigbbeaaGreat
open Go.RowKit
attribute [local go_sem ↓] Go.wp_at_zero Go.wp_at_succ

set_option maxRecDepth 100000 in
set_option maxHeartbeats 1000000 in
/-- (*Surface).Opaque -/
theorem sfOpaque_any (g : Nat) (pa : Option Addr) (pm pk : Nat) (F : Nat → Value) (w : World) (h : SrfB w g F) :
    Calls Tryz.prog 72 #[.pointer (some ⟨g, 0, none⟩), .agg #[.slice pa pm pk]] w fun e w' => e = .returned (.tuple #[]) ∧
      w' = (w.setCell ⟨g, 24, none⟩ (.slice pa pm pk)).alloc (.cells #[.slice pa pm pk] 136) := by
  have c24 := h.cell 24 (by omega)
  have f24 := h.free 24
  obtain ⟨cur, h1, h2, h3⟩ := h
  have hlt : g < w.heap.size := (Array.getElem?_eq_some_iff.1 h1).1
  have hgn : ¬ g = w.heap.size := by omega
  clear h1 h2 h3
  go_enter Tryz.func72, Tryz.ntmps72
  go_wp2_with fail
  exact bodyPost_end (v := .tuple #[]) (by simp [results, Tryz.results72]) rfl ⟨rfl, rfl⟩

set_option maxRecDepth 100000 in
set_option maxHeartbeats 1000000 in
/-- (*Screen).Opaque -/
theorem paOpaque_any {S : Nat → Prop} {x : Nat} {st : St} (hw : Wf st) (id : Int) (l : List R4) (v : Value) (w : World) {bv : Value} (h : PaneOk w S x st bv) (hv : RectsAt w v l) (hlen : l.length ≤ maxLen) :
    Calls Tryz.prog 37 #[.pointer (some ⟨x, 0, none⟩), .int .i64 id, v] w (PPost S x bv (opOpaque st id l.length (l.all fitR) (hasB l)) w) := by
  have hB := isB_iff hw id
  have HE := hide (fun (er : Int) (W : World) (hW : Below w.heap.size w W) => PPost.same (er := er) h hW)
  obtain ⟨va, vc, hvf⟩ := hv.form
  have HV := hide hv
  obtain ⟨sc, mp, blk, G, h⟩ := h
  obtain ⟨x0, x1, xl⟩ := h.scrCells
  unfold ptrV at x0
  have hxn : ¬ x = w.heap.size := Nat.ne_of_lt xl
  unfold opOpaque
  obtain ⟨t, ht⟩ : ∃ t, st.isB id = t := ⟨_, rfl⟩
  rw [ht] at hB ⊢
  cases t with
  | false =>
    rw [if_neg (by simp)]
    have HS := hide (scSurface_no h id (isB_no hw ht))
    clear hB h hvf ht hv
    go_enter Tryz.func37, Tryz.ntmps37
    go_wp2_with (go_at_call 58; refine HS.out.mono ?_; rintro e w' ⟨rfl, hw'⟩; replace hw' := hw'.symm; subst hw')
    go_ret
    exact HE.out 6 _ (Below.refl _ _)
  | true =>
    rw [if_pos rfl]
    obtain ⟨i, rfl, hio⟩ := hB.1 rfl
    have hil := hw.lt hio
    rw [Int.toNat_natCast]
    have HS := hide (scSurface_ok h i hio)
    have kl := (h.at (live_nat hio)).2.2
    obtain ⟨n, hn⟩ : ∃ n, l.length = n := ⟨_, rfl⟩
    have hlen2 := hlen
    unfold maxLen at hlen2
    rw [hn] at hvf hlen hlen2 ⊢
    have hA0 : Below w.heap.size w (w.alloc (.cells #[v] 33)) := (Below.refl _ _).alloc (Nat.le_refl _) _
    by_cases hmany : 20 < n
    · rw [if_pos hmany]
      have HC : Hid (Calls Tryz.prog 71 #[.slice (some ⟨w.heap.size, 0, none⟩) 1 1] (w.alloc (.cells #[v] 33)) fun e w' => e = .returned (.int .i64 2) ∧ w' = w.alloc (.cells #[v] 33)) := check1_many _ n vc va _ (by rw [cell_of_row _ _ 0 _ _ _ (heap_alloc_new w _), hvf]; rfl) hlen hmany
      have HEn := hide (HE.out 2 _ hA0)
      clear hB h HE hA0 hv
      subst hvf
      go_enter Tryz.func37, Tryz.ntmps37
      go_wp2_with (first
        | (go_at_call 58; refine HS.out.mono ?_; rintro e w' ⟨rfl, hw'⟩; replace hw' := hw'.symm; subst hw')
        | (go_at_call 71; refine HC.out.mono ?_; rintro e w' ⟨rfl, hw'⟩; subst hw'))
      go_ret
      exact HEn.out
    · rw [if_neg hmany]
      have hv0 : RectsAt (w.alloc (.cells #[v] 33)) v l := hv.below hA0
      have hc0 : (w.alloc (.cells #[v] 33)).cell? ⟨w.heap.size, 0, none⟩ = some v := cell_of_row _ _ 0 _ _ _ (heap_alloc_new w _)
      have hck := check1_few w.heap.size l v _ hc0 hv0 (by omega)
      obtain ⟨ok, hok⟩ : ∃ ok, l.all fitR = ok := ⟨_, rfl⟩
      rw [hok] at hck ⊢
      cases ok with
      | false =>
        rw [if_neg (by simp)]
        rw [if_neg (by simp)] at hck
        have HC : Hid (Calls Tryz.prog 71 #[.slice (some ⟨w.heap.size, 0, none⟩) 1 1] (w.alloc (.cells #[v] 33)) fun e w' => e = .returned (.int .i64 3) ∧ Below w.heap.size w w') := hck.mono fun e w' ⟨h1, h2⟩ => ⟨h1, hA0.trans (h2.mono hA0.size)⟩
        clear hB h hA0 hv hv0 hc0 hck
        subst hvf
        go_enter Tryz.func37, Tryz.ntmps37
        go_wp2_with (first
          | (go_at_call 58; refine HS.out.mono ?_; rintro e w' ⟨rfl, hw'⟩; replace hw' := hw'.symm; subst hw')
          | (go_at_call 71; refine HC.out.mono ?_; rintro e w1 ⟨rfl, hb⟩; have HB := hide hb; clear hb))
        go_ret
        exact HE.out 3 _ HB.out
      | true =>
        rw [if_pos rfl]
        rw [if_pos rfl] at hck
        have HC : Hid (Calls Tryz.prog 71 #[.slice (some ⟨w.heap.size, 0, none⟩) 1 1] (w.alloc (.cells #[v] 33)) fun e w' => e = .returned (.int .i64 0) ∧ Below w.heap.size w w') := hck.mono fun e w' ⟨h1, h2⟩ => ⟨h1, hA0.trans (h2.mono hA0.size)⟩
        have HOf : Hid (∀ V : World, Below w.heap.size w V → Calls Tryz.prog 73 #[v] V fun e w' => ∃ a m c, e = .returned (.agg #[.slice a m c]) ∧ Calls Tryz.prog 72 #[.pointer (some ⟨blk i, 0, none⟩), .agg #[.slice a m c]] w' fun e w3 => e = .returned (.tuple #[]) ∧ PPost S x bv (0, upd st i (sfHint (hasB l))) w (.returned (.int .i64 0)) w3) := fun V hV => by
          refine (of_out l v V (hv.below hV) (by omega) (fun r hr => List.all_eq_true.1 hok r hr)).mono ?_
          rintro e w' ⟨u, O, rfl, hO, hG, hM, hb'⟩
          obtain ⟨a, m, c, rfl⟩ := hO.bands.form
          have hbw : Below w.heap.size w w' := hV.trans (hb'.mono hV.size)
          refine ⟨a, m, c, rfl, (sfOpaque_any (blk i) a m c (G i) w' ((h.below hbw).srf i (live_nat hio))).mono ?_⟩
          rintro e w3 ⟨rfl, rfl⟩
          have hs1 := hV.size
          have hs2 := hb'.size
          have h := (h.below hbw).mono (S' := grow S w w') fun _ hg => .inl hg
          have hs : SrfB w' (blk i) (G i) := h.srf i (live_nat hio)
          have q := (h.cells i (live_nat hio)).nat
          have q2 := q.next
          have d := h.data i hio
          have ho : S (blk i) := by
            rcases h.own.2.2.2 i (live_nat hio) with ho | ho
            · exact ho
            · omega
          have hr := h.upd (w' := w'.setCell ⟨blk i, 24, none⟩ (.slice a m c)) (gf := sfHint (hasB l)) hio hil (fun _ => rfl) (fun g hg hne => by rw [setOther 24 _ g hg hne]) (hs.set 24 _) rfl (NCells.upd hil ⟨q.num, q.par, ⟨q.now.w, q.now.h, q.now.pix, q.now.x, q.now.y, q.now.c0, q.now.c1, q.now.c2, q.now.c3, q.now.cut, q.now.hint⟩, ⟨q2.w, q2.h, q2.pix, q2.x, q2.y, q2.c0, q2.c1, q2.c2, q2.c3, q2.cut, ⟨_, _, _, rfl⟩⟩, q.stk, q.kep⟩) ⟨d.pix, d.hint, d.npix, ⟨O, RegS.of_out hO fun g h1 h2 => .inr ⟨by omega, h2⟩, hG, hM⟩, d.kw, d.kh, d.kept⟩
          refine ⟨rfl, rfl, ⟨sc, mp, blk, _, (hr.below (al1 (Nat.le_refl _) _)).mono fun g hg => ?_⟩, (((Only.below hbw).set (.inl ho) _)).alloc _⟩
          rcases hg with hg | ⟨hg1, hg2⟩
          · exact .inl hg
          · exact .inr ⟨hg1, by simp; omega⟩
        obtain ⟨gb, hgb⟩ : ∃ gb, blk i = gb := ⟨_, rfl⟩
        rw [hgb] at HOf HS
        clear hB h hA0 hv hv0 hc0 hck HE HV hgb kl
        subst hvf
        go_enter Tryz.func37, Tryz.ntmps37
        go_wp2_with (first
          | (go_at_call 58; refine HS.out.mono ?_; rintro e w' ⟨rfl, hw'⟩; replace hw' := hw'.symm; subst hw')
          | (go_at_call 71; refine HC.out.mono ?_; rintro e w1 ⟨rfl, hb⟩; have HB := hide hb; clear hb)
          | (go_at_call 73; refine (HOf.out _ HB.out).mono ?_; rintro e w2 ⟨oa, om, oc, rfl, hq⟩; have HQ := hide hq; clear hq)
          | (go_at_call 72; refine HQ.out.mono ?_; rintro e w3 ⟨rfl, hp⟩; have HP := hide hp; clear hp))
        go_ret
        exact HP.out

theorem opOpaque_wh (st : St) (id : Int) (n : Nat) (ok : Bool) (f : Int → Int → Bool) : (opOpaque st id n ok f).2.w = st.w ∧ (opOpaque st id n ok f).2.h = st.h := by
  unfold opOpaque; (repeat' split) <;> exact ⟨rfl, rfl⟩

theorem fuOpaque_any {S : Nat → Prop} {x : Nat} {st : St} {d : Cv} (hw : Wf st) (id : Int) (l : List R4) (v : Value) (w : World) (h : FullC w S x st d) (hv : RectsAt w v l) (hlen : l.length ≤ maxLen) :
    Calls Tryz.prog 37 #[.pointer (some ⟨x, 0, none⟩), .int .i64 id, v] w (FPost S x d (opOpaque st id l.length (l.all fitR) (hasB l)) w) := by
  obtain ⟨A, B, c, h1, h2, h3⟩ := h
  exact (paOpaque_any hw id l v w h1.pane hv hlen).mono fun e w' hp => h1.post h2 h3 (opOpaque_wh ..) hp

end Go.Proofs.YtofinpocigbbeaaGreat
