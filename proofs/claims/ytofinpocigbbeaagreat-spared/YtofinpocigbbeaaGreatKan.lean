import Derived.Test.YtofinpocigbbeaaGreatKaj
import Derived.Test.YtofinpocigbbeaaGreatKam
import Derived.Test.YtofinpocigbbeaaGreatKal
import Derived.BigQuiet
namespace Go.Proofs.YtofinpocigbbeaaGreat
open Go.RowKit
attribute [local go_sem ↓] Go.wp_at_zero Go.wp_at_succ

/-! ### The buffers of a screen, and what was damaged -/

abbrev Rgn := List (Int × Int × List (Int × Int))

/-- Pixels in a block of their own. -/
def PixF (w : World) (g n : Nat) (f : Nat → R4) : Prop :=
  ∃ cur : Array Value, w.heap[g]? = some (.cells cur 51 (0, 0)) ∧ cur.size = n * 4 ∧ ∀ k, k < n → cur[k * 4]? = some (.int .u8 (f k).1) ∧ cur[k * 4 + 1]? = some (.int .u8 (f k).2.1) ∧ cur[k * 4 + 2]? = some (.int .u8 (f k).2.2.1) ∧ cur[k * 4 + 3]? = some (.int .u8 (f k).2.2.2)

theorem PixF.keep {w w' : World} {g n : Nat} {f : Nat → R4} (h : PixF w g n f) (hk : w'.heap[g]? = w.heap[g]?) : PixF w' g n f := by
  obtain ⟨cur, h1, h2⟩ := h
  exact ⟨cur, hk.trans h1, h2⟩

structure Buf where
  g : Nat
  age : Nat
  f : Nat → R4

def bufC (W H : Nat) (b : Buf) : List Value := [.int .i64 W, .int .i64 H, .slice (some ⟨b.g, 0, none⟩) (W * H) (W * H), .int .i64 b.age]

structure Cv where
  W : Nat
  H : Nat
  bufs : List Buf
  dam : List Rgn
  nw : Nat
  old : Nat

def canvasC (d : Cv) (bv rv : Value) : Array Value := #[.int .i64 0, .int .i64 0, .int .i64 d.W, .int .i64 d.H, bv, rv, .int .i64 d.nw]

/-- Regions stay: no one writes into bands and spans that there are. -/
def KeptR (w w' : World) : Prop := ∀ (g : Nat) (cur : Array Value) (t : TypeId), t = 192 ∨ t = 194 → w.heap[g]? = some (.cells cur t (0, 0)) → w'.heap[g]? = w.heap[g]?

theorem KeptR.below {w w' : World} (h : Below w.heap.size w w') : KeptR w w' := fun g _ _ _ hg => h.block g (block_lt hg)

theorem KeptR.trans {a b c : World} (h : KeptR a b) (k : KeptR b c) : KeptR a c := fun g cur t ht hg => by
  have e := h g cur t ht hg
  exact (k g cur t ht (e.trans hg)).trans e

theorem OutAt.keptR {w w' : World} {base : Nat} {v : Value} {O : Rgn} (h : OutAt w base v O) (hk : KeptR w w') : OutAt w' base v O := by
  obtain ⟨P, hP, hown, hsp, hnil⟩ := h
  refine ⟨P, hP, ?_, fun p hp => ⟨(hsp p hp).1.kept fun b cur e => hk b cur _ (.inr rfl) e, (hsp p hp).2⟩, hnil⟩
  obtain ⟨h1, h2⟩ := hown
  refine ⟨h1, ?_⟩
  rcases h2 with h2 | ⟨g, cap, cur, a1, a2, a3, a4⟩
  · exact .inl h2
  · exact .inr ⟨g, cap, cur, a1, a2, (hk g cur _ (.inl rfl) a3).trans a3, a4⟩

/-- A region whose blocks are one's own. -/
def RegS (w : World) (S : Nat → Prop) (v : Value) (O : Rgn) : Prop :=
  ∃ P, P.map Prod.fst = O ∧ w.ownsRow 0 192 3 v P.length (bandCells P) ∧ (∀ g, v.ownBlock = some g → S g) ∧ (∀ p ∈ P, SpansAt w p.2 p.1.2.2 ∧ ∀ g, p.2.ownBlock = some g → S g) ∧ (P = [] → v = .slice none 0 0)

theorem RegS.out {w : World} {S : Nat → Prop} {v : Value} {O : Rgn} (h : RegS w S v O) : OutAt w 0 v O := by
  obtain ⟨P, h1, h2, h3, h4, h5⟩ := h
  exact ⟨P, h1, h2, fun p hp => ⟨(h4 p hp).1, fun g _ => Nat.zero_le g⟩, h5⟩

theorem RegS.mono {w : World} {S S' : Nat → Prop} {v : Value} {O : Rgn} (h : RegS w S v O) (hS : ∀ g, S g → S' g) : RegS w S' v O := by
  obtain ⟨P, h1, h2, h3, h4, h5⟩ := h
  exact ⟨P, h1, h2, fun g hg => hS g (h3 g hg), fun p hp => ⟨(h4 p hp).1, fun g hg => hS g ((h4 p hp).2 g hg)⟩, h5⟩

theorem RegS.nil (w : World) (S : Nat → Prop) : RegS w S (.slice none 0 0) [] := ⟨[], rfl, World.ownsRow_nil _ _ _ _, fun g hg => by simp [Value.ownBlock] at hg, fun p hp => by simp at hp, fun _ => rfl⟩

theorem SpansAt.lt {w : World} {v : Value} {L : List (Int × Int)} (h : SpansAt w v L) {g : Nat} (hg : v.ownBlock = some g) : g < w.heap.size := by
  rcases h with ⟨rfl, _⟩ | ⟨b, c, cur, rfl, _, hb, _⟩
  · simp [Value.ownBlock] at hg
  · simp [Value.ownBlock] at hg
    subst hg
    exact block_lt hb

theorem SpansAt.keepB {w w' : World} {v : Value} {L : List (Int × Int)} (h : SpansAt w v L) (hk : ∀ g, v.ownBlock = some g → w'.heap[g]? = w.heap[g]?) : SpansAt w' v L := by
  rcases h with h | ⟨b, c, cur, rfl, hne, hb, hc⟩
  · exact .inl h
  · exact .inr ⟨b, c, cur, rfl, hne, (hk b rfl).trans hb, hc⟩

theorem RegS.of_out {w : World} {S : Nat → Prop} {base : Nat} {v : Value} {O : Rgn} (h : OutAt w base v O) (hS : ∀ g, base ≤ g → g < w.heap.size → S g) : RegS w S v O := by
  obtain ⟨P, h1, h2, h3, h4⟩ := h
  exact ⟨P, h1, ⟨h2.1, h2.2.imp id fun ⟨g, cap, cur, hv, hg, r⟩ => ⟨g, cap, cur, hv, Nat.zero_le _, r⟩⟩, fun g hg => hS g (h2.lt g hg).1 (h2.lt g hg).2, fun p hp => ⟨(h3 p hp).1, fun g hg => hS g ((h3 p hp).2 g hg) ((h3 p hp).1.lt hg)⟩, h4⟩

theorem RegS.keep {w w' : World} {S : Nat → Prop} {v : Value} {O : Rgn} (h : RegS w S v O) (hk : ∀ g, S g → g < w.heap.size → w'.heap[g]? = w.heap[g]?) : RegS w' S v O := by
  obtain ⟨P, h1, h2, h3, h4, h5⟩ := h
  refine ⟨P, h1, ?_, h3, fun p hp => ⟨(h4 p hp).1.keepB fun g hg => hk g ((h4 p hp).2 g hg) ((h4 p hp).1.lt hg), (h4 p hp).2⟩, h5⟩
  exact own_keep h2 fun g hg => hk g (h3 g hg) (h2.lt g hg).2

theorem RegS.keptR {w w' : World} {S : Nat → Prop} {v : Value} {O : Rgn} (h : RegS w S v O) (hk : KeptR w w') : RegS w' S v O := by
  obtain ⟨P, h1, h2, h3, h4, h5⟩ := h
  refine ⟨P, h1, ?_, h3, fun p hp => ⟨(h4 p hp).1.kept fun b cur e => hk b cur _ (.inr rfl) e, (h4 p hp).2⟩, h5⟩
  exact own_keep h2 fun g hg => by
    obtain ⟨cur, e⟩ := own_type h2 hg
    exact hk g cur _ (.inl rfl) e

structure CvMem (w : World) (S : Nat → Prop) (c : Nat) (d : Cv) (bv : Value) (rg : Nat) (dv : Array Value) : Prop where
  blk : Blk w c 145 (canvasC d bv (.slice (some ⟨rg, 0, none⟩) 4 4))
  own : S c
  row : RowS w S 148 4 bv d.bufs.length (d.bufs.flatMap (bufC d.W d.H))
  ring : Blk w rg 136 dv
  rown : S rg
  size : dv.size = 4
  regs : ∀ (i : Nat) (R : Rgn), d.dam[i]? = some R → ∃ v, dv[i]? = some v ∧ RegS w S v R
  pix : ∀ b ∈ d.bufs, S b.g ∧ PixF w b.g (d.W * d.H) b.f

structure CvOk (d : Cv) : Prop where
  w1 : 1 ≤ d.W ∧ d.W ≤ 24
  h1 : 1 ≤ d.H ∧ d.H ≤ 24
  n : 1 ≤ d.bufs.length ∧ d.bufs.length ≤ 3
  nw : d.nw < 4
  ln : d.dam.length = 4
  good : ∀ R ∈ d.dam, Good R
  age : ∀ b ∈ d.bufs, b.age ≤ d.old
  inside : ∀ R ∈ d.dam, ∀ x y, memR R x y = true → inR (0, 0, (d.W : Int), (d.H : Int)) x y = true
  apart : ∀ (i j : Nat) (a b : Buf), d.bufs[i]? = some a → d.bufs[j]? = some b → a.g = b.g → i = j

/-- What turns blocks of other types alone keeps the regions. -/
theorem KeptR.only {S : Nat → Prop} {w w' : World} (h : Only S w w') (hS : ∀ g, S g → ∀ (cur : Array Value) (t : TypeId), t = 192 ∨ t = 194 → w.heap[g]? ≠ some (.cells cur t (0, 0))) : KeptR w w' := fun g cur t ht hg =>
  h.block g (block_lt hg) fun hs => hS g hs cur t ht hg

theorem Blk.keep {w w' : World} {b : Nat} {T : TypeId} {cs : Array Value} (h : Blk w b T cs) (hk : w'.heap[b]? = w.heap[b]?) : Blk w' b T cs := hk.trans h

theorem CvMem.below {w w' : World} {S : Nat → Prop} {c : Nat} {d : Cv} {bv : Value} {rg : Nat} {dv : Array Value} (h : CvMem w S c d bv rg dv) (hb : Below w.heap.size w w') : CvMem w' S c d bv rg dv :=
  ⟨h.blk.keep (hb.block c (block_lt h.blk)), h.own, h.row.keep fun g _ hl => hb.block g hl, h.ring.keep (hb.block rg (block_lt h.ring)), h.rown, h.size, fun i R hi => let ⟨v, h1, h2⟩ := h.regs i R hi; ⟨v, h1, h2.keptR (KeptR.below hb)⟩,
    fun b hb' => ⟨(h.pix b hb').1, (h.pix b hb').2.keep (hb.block b.g (let ⟨_, q, _⟩ := (h.pix b hb').2; block_lt q))⟩⟩

theorem CvMem.mono {w : World} {S S' : Nat → Prop} {c : Nat} {d : Cv} {bv : Value} {rg : Nat} {dv : Array Value} (h : CvMem w S c d bv rg dv) (hS : ∀ g, S g → S' g) : CvMem w S' c d bv rg dv :=
  ⟨h.blk, hS _ h.own, h.row.mono hS, h.ring, hS _ h.rown, h.size, fun i R hi => let ⟨v, h1, h2⟩ := h.regs i R hi; ⟨v, h1, h2.mono hS⟩, fun b hb => ⟨hS _ (h.pix b hb).1, (h.pix b hb).2⟩⟩

/-- Whoever leaves these blocks alone leaves the canvas alone. -/
theorem CvMem.keep {w w' : World} {S : Nat → Prop} {c : Nat} {d : Cv} {bv : Value} {rg : Nat} {dv : Array Value} (h : CvMem w S c d bv rg dv) (hk : ∀ g, S g → g < w.heap.size → w'.heap[g]? = w.heap[g]?) : CvMem w' S c d bv rg dv :=
  ⟨h.blk.keep (hk c h.own (block_lt h.blk)), h.own, h.row.keep hk, h.ring.keep (hk rg h.rown (block_lt h.ring)), h.rown, h.size, fun i R hi => let ⟨v, h1, h2⟩ := h.regs i R hi; ⟨v, h1, h2.keep hk⟩,
    fun b hb => ⟨(h.pix b hb).1, (h.pix b hb).2.keep (hk b.g (h.pix b hb).1 (let ⟨_, q, _⟩ := (h.pix b hb).2; block_lt q))⟩⟩

set_option maxRecDepth 100000 in
set_option maxHeartbeats 1000000 in
/-- Damage -/
theorem damage_any {w : World} {S : Nat → Prop} {c : Nat} {d : Cv} {bv : Value} {rg : Nat} {dv : Array Value} (h : CvMem w S c d bv rg dv) (hd : CvOk d) (l : List R4) (v : Value) (hl : RectsAt w v l) (hn : l.length ≤ 1000) (hf : ∀ r ∈ l, fitR r = true) :
    Calls Tryz.prog 63 #[.pointer (some ⟨c, 0, none⟩), v] w fun e w' => e = .returned (.tuple #[]) ∧ ∃ R dv', CvMem w' (grow S w w') c { d with dam := d.dam.set d.nw R } bv rg dv' ∧ Good R ∧ (∀ x y, memR R x y = (memR ((d.dam[d.nw]?).getD []) x y || hasB l x y)) ∧ Only (fun g => g = rg) w w' := by
  have hnw := hd.nw
  have hR : d.dam[d.nw]? = some (d.dam[d.nw]'(by rw [hd.ln]; exact hnw)) := List.getElem?_eq_getElem _
  obtain ⟨R0, hR0⟩ : ∃ R0, d.dam[d.nw]'(by rw [hd.ln]; exact hnw) = R0 := ⟨_, rfl⟩
  rw [hR0] at hR
  have hG0 : Good R0 := hd.good _ (List.mem_of_getElem? hR)
  obtain ⟨v0, hv0, ho0⟩ := h.regs _ _ hR
  replace ho0 := ho0.out
  obtain ⟨a0, n0, c0, rfl⟩ := ho0.bands.form
  have k5 : w.cell? ⟨c, 5, none⟩ = some (.slice (some ⟨rg, 0, none⟩) 4 4) := h.blk.cell 5
  have k6 : w.cell? ⟨c, 6, none⟩ = some (.int .i64 d.nw) := h.blk.cell 6
  have hcl := cell_lt k5
  have hrl := block_lt h.ring
  have krg : w.cell? ⟨rg, d.nw, none⟩ = some (.slice a0 n0 c0) := (h.ring.cell _).trans hv0
  have HB : Hid (∀ W : World, Below w.heap.size w W → Calls Tryz.prog 104 #[.agg #[.slice (some ⟨rg, 0, none⟩) 4 4, .int .i64 d.nw], .int .i64 0] W fun e w' => e = .returned (.agg #[.slice a0 n0 c0]) ∧ Below W.heap.size W w') := fun W hW => back_any rg d.nw 0 d.nw hnw (by omega) (by omega) a0 n0 c0 W ((hW.cell (p := ⟨rg, d.nw, none⟩) hrl).trans krg)
  have HO : Hid (∀ W : World, Below w.heap.size w W → Calls Tryz.prog 73 #[v] W fun e w' => ∃ u O, e = .returned (.agg #[u]) ∧ BandsAt w' u O ∧ Good O ∧ (∀ x y, memR O x y = hasB l x y) ∧ Below W.heap.size W w') := fun W hW => of_any l v W (hl.below hW) hn hf
  have HC : Hid (∀ (W : World) (u : Value) (O : Rgn), Below w.heap.size w W → BandsAt W u O → Good O → (∀ x y, memR O x y = hasB l x y) → Calls Tryz.prog 103 #[.int .i64 0, .agg #[.slice a0 n0 c0], .agg #[u]] W fun e w' => ∃ a n c' R, e = .returned (.agg #[.slice a n c']) ∧ OutAt w' w.heap.size (.slice a n c') R ∧ Good R ∧ (∀ x y, memR R x y = (memR R0 x y || hasB l x y)) ∧ Below W.heap.size W w') := fun W u O hW hu hO hm => (combine_out 0 R0 O _ _ W hG0 hO (ho0.bands.below hW) hu).mono fun e w' ⟨v2, R, q1, q2, q3, q4, q5⟩ => by
    obtain ⟨a, n, c', rfl⟩ := q2.bands.form
    exact ⟨a, n, c', R, q1, q2.lower hW.size, q3, fun x y => by rw [q4, hm]; rfl, q5⟩
  have HA : Hid (∀ (W : World) (a : Option Addr) (n c' : Nat), Below w.heap.size w W → Calls Tryz.prog 102 #[.pointer (some ⟨c, 5, none⟩), .agg #[.slice a n c']] W fun e w' => e = .returned (.tuple #[]) ∧ Blk w' rg 136 (dv.setIfInBounds d.nw (.slice a n c')) ∧ Only (fun g => g = rg) W w') := fun W a n c' hW => amend_any c 5 rg d.nw hnw a n c' dv W ((hW.cell (p := ⟨c, 5, none⟩) hcl).trans k5) ((hW.cell (p := ⟨c, 6, none⟩) hcl).trans k6) (h.ring.keep (hW.block rg hrl)) h.size
  have hvf : ∃ a n c', v = .slice a n c' := let ⟨a, c', e, _⟩ := hl; ⟨a, _, c', e⟩
  have HE : Hid (∀ (W W' : World) (u : Value) (R : Rgn), Below w.heap.size w W → OutAt W w.heap.size u R → Good R → (∀ x y, memR R x y = (memR R0 x y || hasB l x y)) → Blk W' rg 136 (dv.setIfInBounds d.nw u) → Only (fun g => g = rg) W W' → ∃ R dv', CvMem W' (grow S w W') c { d with dam := d.dam.set d.nw R } bv rg dv' ∧ Good R ∧ (∀ x y, memR R x y = (memR ((d.dam[d.nw]?).getD []) x y || hasB l x y)) ∧ Only (fun g => g = rg) w W') := fun W W' u R hW hu hG hm hb ho => by
    have hkr : KeptR W W' := KeptR.only ho fun g hg cur t ht e => by
      subst hg
      have := (h.ring.keep (hW.block g hrl)).symm.trans e
      simp at this
      rcases ht with rfl | rfl <;> simp_all
    have hne : ∀ (g : Nat) (cur : Array Value) (t : TypeId), t ≠ 136 → w.heap[g]? = some (.cells cur t (0, 0)) → W'.heap[g]? = w.heap[g]? := fun g cur t ht e => by
      have hg : g ≠ rg := fun e2 => by
        subst e2
        have := h.ring.symm.trans e
        simp at this
        exact ht this.2.symm
      exact (ho.block g (Nat.lt_of_lt_of_le (block_lt e) hW.size) hg).trans (hW.block g (block_lt e))
    refine ⟨R, _, ⟨h.blk.keep (hne c _ 145 (by decide) h.blk), .inl h.own, (h.row.mono fun g hg => Or.inl hg).other fun g cur e => hne g cur 148 (by decide) e, hb, .inl h.rown, by simpa using h.size, fun i R' hi => ?_, fun b hb' => ⟨.inl (h.pix b hb').1, (h.pix b hb').2.keep (let ⟨cur, q, _⟩ := (h.pix b hb').2; hne b.g cur 51 (by decide) q)⟩⟩, hG, fun x y => by rw [hR]; exact hm x y, (Only.below hW).trans (ho.mono fun g _ hg => .inl hg)⟩
    by_cases e : i = d.nw
    · subst e
      have : R' = R := by
        have hlt : d.nw < d.dam.length := by rw [hd.ln]; exact hnw
        simpa [List.getElem?_set_self hlt] using hi.symm
      subst this
      exact ⟨u, by rw [Array.getElem?_setIfInBounds_self_of_lt (by rw [h.size]; exact hnw)], RegS.of_out (hu.keptR hkr) fun g hg hl => .inr ⟨hg, hl⟩⟩
    · have hi' : d.dam[i]? = some R' := by simpa [List.getElem?_set_ne (fun q => e q.symm)] using hi
      obtain ⟨v', q1, q2⟩ := h.regs i R' hi'
      exact ⟨v', by rw [Array.getElem?_setIfInBounds_ne (fun q => e q.symm)]; exact q1, ((q2.keptR (KeptR.below hW)).keptR hkr).mono fun g hg => .inl hg⟩
  obtain ⟨va, vn, vc, rfl⟩ := hvf
  clear h hd hl hf ho0 hv0 hR hR0 hG0
  go_enter Tryz.func63, Tryz.ntmps63
  go_region_with (first
    | (go_at_call 104; refine (HB.out _ H2.out).mono ?_; rintro e w1 ⟨rfl, b1⟩; have H1 := hide (H2.out.trans (b1.mono H2.out.size)); have HQ1 := hide (HQ.out.1.below b1); clear b1)
    | (go_at_call 104; refine (HB.out _ (Below.refl _ _).drew).mono ?_; rintro e w1 ⟨rfl, b1⟩; have H1 := hide ((Below.refl w.heap.size w).drew.trans b1); clear b1)
    | (go_at_call 73; refine (HO.out _ H1.out).mono ?_; rintro e w2 ⟨u, O, rfl, q1, q2, q3, b2⟩; obtain ⟨ua, un, uc, rfl⟩ := q1.form; have H2 := hide (H1.out.trans (b2.mono H1.out.size)); have HQ := hide (And.intro q1 (And.intro q2 q3)); clear b2 q1 q2 q3)
    | (go_at_call 73; refine (HO.out _ (Below.refl _ _).drew).mono ?_; rintro e w2 ⟨u, O, rfl, q1, q2, q3, b2⟩; obtain ⟨ua, un, uc, rfl⟩ := q1.form; have H2 := hide ((Below.refl w.heap.size w).drew.trans b2); have k52 : w2.cell? ⟨c, 5, none⟩ = some (.slice (some ⟨rg, 0, none⟩) 4 4) := (H2.out.cell (p := ⟨c, 5, none⟩) hcl).trans k5; have k62 : w2.cell? ⟨c, 6, none⟩ = some (.int .i64 d.nw) := (H2.out.cell (p := ⟨c, 6, none⟩) hcl).trans k6; have HQ := hide (And.intro q1 (And.intro q2 q3)); clear b2 q1 q2 q3)
    | (go_at_call 103; refine (HC.out _ _ _ H1.out HQ1.out HQ.out.2.1 HQ.out.2.2).mono ?_; rintro e w3 ⟨a3, n3, c3, R, rfl, p1, p2, p3, b3⟩; have H3 := hide (H1.out.trans (b3.mono H1.out.size)); have HR := hide (And.intro p1 (And.intro p2 p3)); clear b3 p1 p2 p3)
    | (go_at_call 103; refine (HC.out _ _ _ H2.out HQ.out.1 HQ.out.2.1 HQ.out.2.2).mono ?_; rintro e w3 ⟨a3, n3, c3, R, rfl, p1, p2, p3, b3⟩; have H3 := hide (H2.out.trans (b3.mono H2.out.size)); have HR := hide (And.intro p1 (And.intro p2 p3)); clear b3 p1 p2 p3)
    | (go_at_call 102; refine (HA.out _ _ _ _ H3.out).mono ?_; rintro e w4 ⟨rfl, p4, o4⟩; have H4 := hide (HE.out _ _ _ _ H3.out HR.out.1 HR.out.2.1 HR.out.2.2 p4 o4); clear p4 o4))
  all_goals go_wp2_with fail
  all_goals exact bodyPost_end (v := .tuple #[]) (by simp [results, Tryz.results63]) rfl ⟨rfl, H4.out⟩

end Go.Proofs.YtofinpocigbbeaaGreat

namespace Go.Proofs.YtofinpocigbbeaaGreat
open Go.RowKit

/-! ### The program's screen in memory -/

/-- The ground, and the surfaces that there are. -/
def Live (st : St) (p : Int) : Prop := p = -1 ∨ ∃ i : Nat, p = i ∧ i ∈ st.order

def ptrV (b : Nat) : Value := .pointer (some ⟨b, 0, none⟩)

/-- What a surface has now; the ground's clip is the screen. -/
def lookP (st : St) (p : Int) : Look := if p = -1 then ⟨0, 0, 0, 0, true, (0, 0, st.w, st.h), fun _ => (0, 0, 0, 0), fun _ _ => false⟩ else (st.sf p.toNat).now

structure LookCells (G : Nat → Value) (k : Nat) (l : Look) : Prop where
  w : G k = .int .i64 l.w
  h : G (k + 1) = .int .i64 l.h
  pix : ∃ a m c, G (k + 2) = .slice a m c
  x : G (k + 3) = .int .i64 l.x
  y : G (k + 4) = .int .i64 l.y
  c0 : G (k + 5) = .int .i64 l.clip.1
  c1 : G (k + 6) = .int .i64 l.clip.2.1
  c2 : G (k + 7) = .int .i64 l.clip.2.2.1
  c3 : G (k + 8) = .int .i64 l.clip.2.2.2
  cut : G (k + 9) = .bool l.cut
  hint : ∃ a m c, G (k + 10) = .slice a m c

/-- The cells of a surface. -/
structure PCells (blk : Int → Nat) (st : St) (p : Int) (G : Nat → Value) : Prop where
  num : G 0 = .int .i64 p
  par : G 1 = if p = -1 then .pointer none else ptrV (blk (st.sf p.toNat).parent)
  now : LookCells G 3 (lookP st p)
  next : ∃ l, LookCells G 14 l ∧ (p ≠ -1 → l = (st.sf p.toNat).next)
  stk : ∃ (t : Bool) (z : Int) (b : Bool), G 25 = .bool t ∧ G 26 = .int .i64 z ∧ G 27 = .bool b ∧ (p ≠ -1 → t = (st.sf p.toNat).ask ∧ (t = true → z = (st.sf p.toNat).sib ∧ b = (st.sf p.toNat).above))
  kep : ∃ kw kh a m c, G 28 = .int .i64 kw ∧ G 29 = .int .i64 kh ∧ G 30 = .slice a m c

/-- Pixels, a block of one's own if there are any. -/
def PixV (w : World) (S : Nat → Prop) (v : Value) (n : Nat) (f : Nat → R4) : Prop :=
  ∃ a, v = .slice a n n ∧ (0 < n → ∃ g, a = some ⟨g, 0, none⟩ ∧ S g ∧ PixF w g n f)

/-- Marks in a block. -/
def BoolF (w : World) (g n : Nat) (f : Nat → Bool) : Prop :=
  ∃ cur : Array Value, w.heap[g]? = some (.cells cur 4 (0, 0)) ∧ cur.size = n ∧ ∀ k, k < n → cur[k]? = some (.bool (f k))

def BoolV (w : World) (S : Nat → Prop) (v : Value) (n : Nat) (f : Nat → Bool) : Prop :=
  ∃ a, v = .slice a n n ∧ (0 < n → ∃ g, a = some ⟨g, 0, none⟩ ∧ S g ∧ BoolF w g n f)

/-- A region with these points. -/
def HintV (w : World) (S : Nat → Prop) (v : Value) (f : Int → Int → Bool) : Prop := ∃ R, RegS w S v R ∧ Good R ∧ ∀ x y, memR R x y = f x y

def Look.n (l : Look) : Nat := (l.w * l.h).toNat

/-- What the cells of a surface point to. -/
structure SfD (w : World) (S : Nat → Prop) (G : Nat → Value) (s : Sf) : Prop where
  pix : PixV w S (G 5) s.now.n s.now.pix
  hint : HintV w S (G 13) s.now.hint
  npix : PixV w S (G 16) s.next.n s.next.pix
  nhint : HintV w S (G 24) s.next.hint
  kw : G 28 = .int .i64 s.now.w
  kh : G 29 = .int .i64 s.now.h
  kept : BoolV w S (G 30) s.now.n s.kept

/-- Blocks of these types are never written into by what keeps the surfaces. -/
def DataT (t : TypeId) : Prop := t = 51 ∨ t = 4 ∨ t = 192 ∨ t = 194

def KeptD (w w' : World) : Prop := ∀ (g : Nat) (cur : Array Value) (t : TypeId), DataT t → w.heap[g]? = some (.cells cur t (0, 0)) → w'.heap[g]? = w.heap[g]?

theorem KeptD.below {w w' : World} (h : Below w.heap.size w w') : KeptD w w' := fun g _ _ _ hg => h.block g (block_lt hg)
theorem KeptD.trans {a b c : World} (h : KeptD a b) (k : KeptD b c) : KeptD a c := fun g cur t ht hg => by
  have e := h g cur t ht hg
  exact (k g cur t ht (e.trans hg)).trans e
theorem KeptD.r {w w' : World} (h : KeptD w w') : KeptR w w' := fun g cur t ht hg => h g cur t (.inr (.inr ht)) hg
theorem KeptD.refl (w : World) : KeptD w w := fun _ _ _ _ _ => rfl

theorem PixV.keepS {w w' : World} {S S' : Nat → Prop} {v : Value} {n : Nat} {f : Nat → R4} (h : PixV w S v n f) (hS : ∀ g, S g → S' g) (hk : ∀ g cur, S g → w.heap[g]? = some (.cells cur 51 (0, 0)) → w'.heap[g]? = w.heap[g]?) : PixV w' S' v n f := by
  obtain ⟨a, h1, h2⟩ := h
  refine ⟨a, h1, fun hn => ?_⟩
  obtain ⟨g, g1, g2, cur, g3, g4⟩ := h2 hn
  exact ⟨g, g1, hS g g2, cur, (hk g cur g2 g3).trans g3, g4⟩

theorem BoolV.keepS {w w' : World} {S S' : Nat → Prop} {v : Value} {n : Nat} {f : Nat → Bool} (h : BoolV w S v n f) (hS : ∀ g, S g → S' g) (hk : ∀ g cur, S g → w.heap[g]? = some (.cells cur 4 (0, 0)) → w'.heap[g]? = w.heap[g]?) : BoolV w' S' v n f := by
  obtain ⟨a, h1, h2⟩ := h
  refine ⟨a, h1, fun hn => ?_⟩
  obtain ⟨g, g1, g2, cur, g3, g4⟩ := h2 hn
  exact ⟨g, g1, hS g g2, cur, (hk g cur g2 g3).trans g3, g4⟩

theorem HintV.kept {w w' : World} {S : Nat → Prop} {v : Value} {f : Int → Int → Bool} (h : HintV w S v f) (hk : KeptR w w') : HintV w' S v f := by
  obtain ⟨R, h1, h2⟩ := h
  exact ⟨R, h1.keptR hk, h2⟩

theorem HintV.keep {w w' : World} {S : Nat → Prop} {v : Value} {f : Int → Int → Bool} (h : HintV w S v f) (hk : ∀ g, S g → g < w.heap.size → w'.heap[g]? = w.heap[g]?) : HintV w' S v f := by
  obtain ⟨R, h1, h2⟩ := h
  exact ⟨R, h1.keep hk, h2⟩

theorem HintV.mono {w : World} {S S' : Nat → Prop} {v : Value} {f : Int → Int → Bool} (h : HintV w S v f) (hS : ∀ g, S g → S' g) : HintV w S' v f := by
  obtain ⟨R, h1, h2⟩ := h
  exact ⟨R, h1.mono hS, h2⟩

theorem PixV.nil (w : World) (S : Nat → Prop) {n : Nat} (hn : n = 0) (f : Nat → R4) : PixV w S (.slice none 0 0) n f := ⟨none, by rw [hn], fun h => by omega⟩
theorem BoolV.nil (w : World) (S : Nat → Prop) {n : Nat} (hn : n = 0) (f : Nat → Bool) : BoolV w S (.slice none 0 0) n f := ⟨none, by rw [hn], fun h => by omega⟩
theorem HintV.nil (w : World) (S : Nat → Prop) : HintV w S (.slice none 0 0) fun _ _ => false := ⟨[], RegS.nil _ _, good_nil, fun _ _ => rfl⟩

theorem SfD.mono {w : World} {S S' : Nat → Prop} {G : Nat → Value} {s : Sf} (h : SfD w S G s) (hS : ∀ g, S g → S' g) : SfD w S' G s :=
  ⟨h.pix.keepS hS fun _ _ _ _ => rfl, h.hint.mono hS, h.npix.keepS hS fun _ _ _ _ => rfl, h.nhint.mono hS, h.kw, h.kh, h.kept.keepS hS fun _ _ _ _ => rfl⟩

theorem SfD.kd {w w' : World} {S : Nat → Prop} {G : Nat → Value} {s : Sf} (h : SfD w S G s) (hk : KeptD w w') : SfD w' S G s :=
  ⟨h.pix.keepS (fun _ h => h) fun g cur _ e => hk g cur _ (.inl rfl) e, h.hint.kept hk.r, h.npix.keepS (fun _ h => h) fun g cur _ e => hk g cur _ (.inl rfl) e, h.nhint.kept hk.r, h.kw, h.kh, h.kept.keepS (fun _ h => h) fun g cur _ e => hk g cur _ (.inr (.inl rfl)) e⟩

/-- The same cells, where it reads them. -/
theorem SfD.congr {w : World} {S : Nat → Prop} {G G' : Nat → Value} {s : Sf} (h : SfD w S G s) (h5 : G' 5 = G 5) (h13 : G' 13 = G 13) (h16 : G' 16 = G 16) (h24 : G' 24 = G 24) (h28 : G' 28 = G 28) (h29 : G' 29 = G 29) (h30 : G' 30 = G 30) : SfD w S G' s :=
  ⟨by rw [h5]; exact h.pix, by rw [h13]; exact h.hint, by rw [h16]; exact h.npix, by rw [h24]; exact h.nhint, by rw [h28]; exact h.kw, by rw [h29]; exact h.kh, by rw [h30]; exact h.kept⟩

/-- The blocks. -/
structure PRaw (w : World) (S : Nat → Prop) (x : Nat) (st : St) (bv : Value) (sc mp : Nat) (blk : Int → Nat) (G : Int → Nat → Value) : Prop where
  scr : w.heap[x]? = some (.cells #[ptrV sc, bv] 90 (0, 0))
  sce : w.heap[sc]? = some (.cells #[ptrV (blk (-1)), .map (some mp), .int .i64 (st.sfs.length : Int)] 152 (0, 0))
  map : MapOf w mp st.order fun (i : Nat) => blk i
  srf : ∀ p, Live st p → ∃ cur : Array Value, w.heap[blk p]? = some (.cells cur 174 (0, 0)) ∧ cur.size = 31 ∧ ∀ o, o < 31 → cur[o]? = some (G p o)
  own : S x ∧ S sc ∧ S mp ∧ ∀ p, Live st p → S (blk p)
  inj : ∀ p p', Live st p → Live st p' → blk p = blk p' → p = p'
  on : ∀ p, Live st p → RowS w S 117 1 (G p 2) (st.kids p).length ((st.kids p).map fun (i : Nat) => ptrV (blk i))
  apart : ∀ p p', Live st p → Live st p' → p ≠ p' → ∀ g, (G p 2).ownBlock = some g → (G p' 2).ownBlock ≠ some g
  cells : ∀ p, Live st p → PCells blk st p (G p)
  data : ∀ i : Nat, i ∈ st.order → SfD w S (G i) (st.sf i)

def PaneOk (w : World) (S : Nat → Prop) (x : Nat) (st : St) (bv : Value) : Prop := ∃ sc mp blk G, PRaw w S x st bv sc mp blk G

theorem PRaw.mono {w : World} {S S' : Nat → Prop} {x : Nat} {st : St} {bv : Value} {sc mp : Nat} {blk : Int → Nat} {G : Int → Nat → Value} (h : PRaw w S x st bv sc mp blk G) (hS : ∀ g, S g → S' g) : PRaw w S' x st bv sc mp blk G :=
  ⟨h.scr, h.sce, h.map, h.srf, ⟨hS _ h.own.1, hS _ h.own.2.1, hS _ h.own.2.2.1, fun p hp => hS _ (h.own.2.2.2 p hp)⟩, h.inj, fun p hp => (h.on p hp).mono hS, h.apart, h.cells, fun i hi => (h.data i hi).mono hS⟩

theorem PRaw.keep {w w' : World} {S : Nat → Prop} {x : Nat} {st : St} {bv : Value} {sc mp : Nat} {blk : Int → Nat} {G : Int → Nat → Value} (h : PRaw w S x st bv sc mp blk G) (hk : ∀ g, S g → g < w.heap.size → w'.heap[g]? = w.heap[g]?) : PRaw w' S x st bv sc mp blk G := by
  have hl : ∀ {g : Nat} {o : Obj}, w.heap[g]? = some o → S g → w'.heap[g]? = some o := fun {g o} hg hs => (hk g hs (Array.getElem?_eq_some_iff.1 hg).1).trans hg
  refine ⟨hl h.scr h.own.1, hl h.sce h.own.2.1, h.map.keep (hk _ h.own.2.2.1 h.map.lt), fun p hp => ?_, h.own, h.inj, fun p hp => (h.on p hp).keep hk, h.apart, h.cells, fun i hi => ?_⟩
  · obtain ⟨cur, h1, h2⟩ := h.srf p hp
    exact ⟨cur, hl h1 (h.own.2.2.2 p hp), h2⟩
  · have q := h.data i hi
    exact ⟨q.pix.keepS (fun _ h => h) fun g cur hs e => hk g hs (block_lt e), q.hint.keep hk, q.npix.keepS (fun _ h => h) fun g cur hs e => hk g hs (block_lt e), q.nhint.keep hk, q.kw, q.kh, q.kept.keepS (fun _ h => h) fun g cur hs e => hk g hs (block_lt e)⟩

theorem PRaw.below {w w' : World} {S : Nat → Prop} {x : Nat} {st : St} {bv : Value} {sc mp : Nat} {blk : Int → Nat} {G : Int → Nat → Value} (h : PRaw w S x st bv sc mp blk G) (hb : Below w.heap.size w w') : PRaw w' S x st bv sc mp blk G := h.keep fun g _ hg => hb.block g hg

theorem PaneOk.mono {w : World} {S S' : Nat → Prop} {x : Nat} {st : St} {bv : Value} (h : PaneOk w S x st bv) (hS : ∀ g, S g → S' g) : PaneOk w S' x st bv := by
  obtain ⟨sc, mp, blk, G, h⟩ := h
  exact ⟨sc, mp, blk, G, h.mono hS⟩

theorem PaneOk.keep {w w' : World} {S : Nat → Prop} {x : Nat} {st : St} {bv : Value} (h : PaneOk w S x st bv) (hk : ∀ g, S g → g < w.heap.size → w'.heap[g]? = w.heap[g]?) : PaneOk w' S x st bv := by
  obtain ⟨sc, mp, blk, G, h⟩ := h
  exact ⟨sc, mp, blk, G, h.keep hk⟩

theorem PaneOk.below {w w' : World} {S : Nat → Prop} {x : Nat} {st : St} {bv : Value} (h : PaneOk w S x st bv) (hb : Below w.heap.size w w') : PaneOk w' S x st bv := by
  obtain ⟨sc, mp, blk, G, h⟩ := h
  exact ⟨sc, mp, blk, G, h.below hb⟩

section
variable {w : World} {S : Nat → Prop} {x : Nat} {st : St} {bv : Value} {sc mp : Nat} {blk : Int → Nat} {G : Int → Nat → Value}

theorem live_top (st : St) : Live st (-1) := .inl rfl
theorem live_nat {st : St} {i : Nat} (h : i ∈ st.order) : Live st i := .inr ⟨i, rfl, h⟩
theorem live_kid {st : St} {p : Int} {i : Nat} (h : i ∈ st.kids p) : Live st i := live_nat (kids_mem.1 h).1
theorem live_par {st : St} (hw : Wf st) {i : Nat} (hi : i ∈ st.order) : Live st (st.sf i).parent := by
  have h1 := hw.par i
  by_cases e : (st.sf i).parent = -1
  · exact .inl e
  · obtain ⟨p, hp⟩ : ∃ p : Nat, (st.sf i).parent = p := ⟨(st.sf i).parent.toNat, by omega⟩
    exact .inr ⟨p, hp, hw.up i hi p hp⟩

theorem PRaw.scrCells (h : PRaw w S x st bv sc mp blk G) : w.cell? ⟨x, 0, none⟩ = some (ptrV sc) ∧ w.cell? ⟨x, 1, none⟩ = some bv ∧ x < w.heap.size := by
  refine ⟨?_, ?_, (Array.getElem?_eq_some_iff.1 h.scr).1⟩ <;> (rw [cell_of_row w x _ _ _ _ h.scr]; rfl)

theorem PRaw.sceCells (h : PRaw w S x st bv sc mp blk G) : w.cell? ⟨sc, 0, none⟩ = some (ptrV (blk (-1))) ∧ w.cell? ⟨sc, 1, none⟩ = some (.map (some mp)) ∧ w.cell? ⟨sc, 2, none⟩ = some (.int .i64 (st.sfs.length : Int)) ∧ sc < w.heap.size ∧ ∀ j, w.frozen? ⟨sc, j, none⟩ = false := by
  refine ⟨?_, ?_, ?_, (Array.getElem?_eq_some_iff.1 h.sce).1, fun j => by simp [World.frozen?, h.sce]⟩ <;> (rw [cell_of_row w sc _ _ _ _ h.sce]; rfl)

theorem PRaw.at (h : PRaw w S x st bv sc mp blk G) {p : Int} (hp : Live st p) : (∀ o, o < 31 → w.cell? ⟨blk p, o, none⟩ = some (G p o)) ∧ (∀ o, w.frozen? ⟨blk p, o, none⟩ = false) ∧ blk p < w.heap.size := by
  obtain ⟨cur, h1, h2, h3⟩ := h.srf p hp
  refine ⟨fun o ho => ?_, fun o => by simp [World.frozen?, h1], (Array.getElem?_eq_some_iff.1 h1).1⟩
  rw [cell_of_row w _ _ _ _ _ h1]
  exact h3 o ho

end

end Go.Proofs.YtofinpocigbbeaaGreat

namespace Go.Proofs.YtofinpocigbbeaaGreat
open Go.RowKit

/-- Where a number stands among some, or -1. -/
def IdxIs (L : List Nat) (n r : Int) : Prop := (r = -1 ∧ ∀ i ∈ L, (i : Int) ≠ n) ∨ ∃ (k : Nat) (i : Nat), r = k ∧ L[k]? = some i ∧ (i : Int) = n

set_option maxRecDepth 100000 in
set_option maxHeartbeats 1000000 in
/-- find's closure -/
theorem isNum_any (g B : Nat) (m n : Int) (w : World) (hg : w.cell? ⟨g, 0, none⟩ = some (.int .i64 m)) (hB : w.cell? ⟨B, 0, none⟩ = some (.int .i64 n)) :
    Calls Tryz.prog 167 #[.pointer (some ⟨g, 0, none⟩), .pointer (some ⟨B, 0, none⟩)] w fun e w' => e = .returned (.bool (decide (m = n))) ∧ ∃ k, w' = w.drewN k := by
  go_enter Tryz.func167, Tryz.ntmps167
  go_wp2
  go_quiet (fail)
  go_wp2
  go_ret
  exact ⟨rfl, _, rfl⟩

/-- A row of pointers to surfaces, each with its number. -/
structure Ptrs (w : World) (v : Value) (L : List Nat) (q : Nat → Nat) : Prop where
  form : ∃ a c, v = .slice a L.length c ∧ ∀ k (h : k < L.length), ∃ g, a = some ⟨g, 0, none⟩ ∧ g < w.heap.size ∧ w.cell? ⟨g, k, none⟩ = some (.pointer (some ⟨q L[k], 0, none⟩))
  num : ∀ i ∈ L, w.cell? ⟨q i, 0, none⟩ = some (.int .i64 (i : Int)) ∧ q i < w.heap.size

theorem Ptrs.below {w w' : World} {v : Value} {L : List Nat} {q : Nat → Nat} (h : Ptrs w v L q) (hb : Below w.heap.size w w') : Ptrs w' v L q := by
  obtain ⟨⟨a, c, rfl, h1⟩, h2⟩ := h
  refine ⟨⟨a, c, rfl, fun k hk => ?_⟩, fun i hi => ?_⟩
  · obtain ⟨g, e1, e2, e3⟩ := h1 k hk
    exact ⟨g, e1, Nat.lt_of_lt_of_le e2 hb.size, (hb.cell (p := ⟨g, k, none⟩) e2).trans e3⟩
  · obtain ⟨e1, e2⟩ := h2 i hi
    exact ⟨(hb.cell (p := ⟨q i, 0, none⟩) e2).trans e1, Nat.lt_of_lt_of_le e2 hb.size⟩

set_option maxRecDepth 100000 in
set_option maxHeartbeats 1000000 in
theorem idxF_any (L : List Nat) (q : Nat → Nat) (n : Int) (v : Value) (B : Nat) (w : World) (hv : Ptrs w v L q) (hB : w.cell? ⟨B, 0, none⟩ = some (.int .i64 n)) (hL : L.length ≤ 1000) :
    Calls Tryz.prog 166 #[v, .func (.func 167) #[] #[.pointer (some ⟨B, 0, none⟩)]] w fun e w' => ∃ r, e = .returned (.int .i64 r) ∧ IdxIs L n r ∧ ∃ k, w' = w.drewN k := by
  obtain ⟨⟨a, c, rfl, h1⟩, h2⟩ := hv
  obtain ⟨m, hm⟩ : ∃ m, L.length = m := ⟨_, rfl⟩
  rw [hm] at hL ⊢
  have H1 := hide h1
  have H2 := hide h2
  have HM := hide hm
  clear h1 h2 hm
  go_enter Tryz.func166, Tryz.ntmps166
  go_wp2_with fail
  go_loopg [8] m (fun g s8 wr => ∃ (k z : Nat), s8 = .int .i64 (k : Int) ∧ g + k = m ∧ (∀ j (h : j < L.length), j < k → (L[j] : Int) ≠ n) ∧ wr = w.drewN z)
  case atStart => exact ⟨0, 0, rfl, by omega, fun j _ h => absurd h (by omega), rfl⟩
  case round =>
    obtain ⟨k, z, rfl, hgk, hno, rfl⟩ := hrel
    have HNo := hide hno
    clear hno
    cases gk with
    | zero =>
      have hlt : ¬ (k : Int) < (m : Int) := by omega
      go_wp2_with fail
      go_ret
      refine ⟨_, rfl, .inl ⟨rfl, fun i hi => ?_⟩, _, rfl⟩
      obtain ⟨j, hj, rfl⟩ := List.getElem_of_mem hi
      exact HNo.out j hj (by have := HM.out; omega)
    | succ g =>
      have hlt : (k : Int) < (m : Int) := by omega
      have hltn : k < m := by omega
      have hkl : k < L.length := by have := HM.out; omega
      obtain ⟨gb, rfl, gl, gc⟩ := H1.out k hkl
      obtain ⟨e1, e2⟩ := H2.out L[k] (List.getElem_mem hkl)
      have HK : Hid (L[k]? = some L[k]) := List.getElem?_eq_getElem hkl
      obtain ⟨i, hi⟩ : ∃ i, L[k] = i := ⟨_, rfl⟩
      rw [hi] at gc e1 e2 HK
      have HI := hide hi
      clear hi
      have HN := hide (isNum_any (q i) B (i : Int) n (w.drewN z) (by simpa using e1) (by simpa using hB))
      by_cases hin : (i : Int) = n
      · go_wp2_with (go_at_call 167; refine HN.out.mono ?_; rintro e w' ⟨rfl, zz, rfl⟩; rw [decide_eq_true hin])
        go_ret
        exact ⟨_, rfl, .inr ⟨k, i, rfl, HK.out, hin⟩, _, rfl⟩
      · go_wp2_with (go_at_call 167; refine HN.out.mono ?_; rintro e w' ⟨rfl, zz, rfl⟩; rw [decide_eq_false hin])
        go_roundg g
        case measure => omega
        case rel =>
          refine ⟨k + 1, _, by go_num, by omega, fun j hj hjk => ?_, rfl⟩
          by_cases e : j = k
          · subst e; rw [HI.out]; exact hin
          · exact HNo.out j hj (by omega)

set_option maxRecDepth 100000 in
set_option maxHeartbeats 1000000 in
/-- (*Surface).find: the parent's block p, its row of pointers v. -/
theorem find_any (L : List Nat) (q : Nat → Nat) (n : Int) (v : Value) (p : Nat) (w : World) (hp : w.cell? ⟨p, 2, none⟩ = some v) (hpl : p < w.heap.size) (hv : Ptrs w v L q) (hL : L.length ≤ 1000) :
    Calls Tryz.prog 111 #[.pointer (some ⟨p, 0, none⟩), .int .i64 n] w fun e w' => ∃ r, e = .returned (.int .i64 r) ∧ IdxIs L n r ∧ Below w.heap.size w w' := by
  have hb := (Below.refl w.heap.size w).alloc (Nat.le_refl _) (.cells #[.int .i64 n] 3)
  have HB := hide hb
  have HI := hide (idxF_any L q n v w.heap.size (w.alloc (.cells #[.int .i64 n] 3)) (hv.below hb) (by simp) hL)
  have hmf : ∀ (fn : Fn) (first cap : Array Value) (w : World), (Instr.makeFunc fn first cap).run Tryz.prog w = .ok (.func fn first cap) w := fun _ _ _ _ => rfl
  have hne : p ≠ w.heap.size := by omega
  obtain ⟨⟨va, vc, rfl, _⟩, _⟩ := hv
  clear hb
  go_enter Tryz.func111, Tryz.ntmps111
  go_wp2_with (go_at_call 166; refine HI.out.mono ?_; rintro e w' ⟨r, rfl, hr, zz, rfl⟩)
  go_ret
  exact ⟨r, rfl, hr, HB.out.trans (below_drewN (Below.refl _ _) _)⟩

end Go.Proofs.YtofinpocigbbeaaGreat
