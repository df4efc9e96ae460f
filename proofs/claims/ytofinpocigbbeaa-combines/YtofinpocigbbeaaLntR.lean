import Derived.Test.YtofinpocigbbeaaRCmB
namespace Go.Proofs.Ytofinpocigbbeaa
open Go.RowKit
attribute [local go_sem ↓] Go.wp_at_zero Go.wp_at_succ

def farR : Int × Int × Int × Int := (-7070, 0, 0, 0)

/-- A list that is lent: with two of spare room; nothing, for nothing. -/
def Lent (w' : World) (base : Nat) (v : Value) (l : List (Int × Int × Int × Int)) (u : Value) : Prop :=
  (v = .slice none 0 0 ∧ u = .slice none 0 0 ∧ l = []) ∨ ((∃ ad c, v = .slice (some ad) l.length c) ∧ ∃ g cap, u = .slice (some ⟨g, 0, none⟩) l.length cap ∧ w'.ownsRow base 52 4 (.slice (some ⟨g, 0, none⟩) (l.length + 2) cap) (l.length + 2) (rectCells (l ++ [farR, farR])))

set_option maxRecDepth 100000 in
theorem eq_nil_nil (w : World) : (binOp .eql 22 (.slice none 0 0) (.slice none 0 0)).run Try.prog w = .ok (.bool true) w := rfl
set_option maxRecDepth 100000 in
theorem eq_some_nil (ad : Addr) (n c : Nat) (w : World) : (binOp .eql 22 (.slice (some ad) n c) (.slice none 0 0)).run Try.prog w = .ok (.bool false) w := rfl

set_option maxRecDepth 100000 in
set_option maxHeartbeats 1000000 in
theorem lent_any (l : List (Int × Int × Int × Int)) (v : Value) (w : World) (h : RectsAt w v l) (hv : (v = .slice none 0 0 ∧ l = []) ∨ ∃ ad c, v = .slice (some ad) l.length c) (hr : l.length * 32 ≤ 140737488351232) :
    Calls Try.prog 16 #[v] w fun e w' => ∃ u, e = .returned u ∧ Lent w' w.heap.size v l u ∧ Below w.heap.size w w' := by
  obtain ⟨i0, hi0, hz0, hz1, hz2⟩ := info_parts rectInfo
  rcases hv with ⟨rfl, rfl⟩ | ⟨ad, c, rfl⟩
  · clear h hr
    have hq := eq_nil_nil
    go_enter Try.func16, Try.ntmps16
    go_wp2
    go_ret
    exact ⟨_, rfl, .inl ⟨rfl, rfl, rfl⟩, Below.refl _ _⟩
  · have hnews := rects_news h fun e => .inr ⟨ad, c, by rw [e]; rfl⟩
    have HL := hide (rfl : l.length = l.length)
    obtain ⟨n, hn⟩ : ∃ n, l.length = n := ⟨_, rfl⟩
    rw [hn] at hr hnews
    rw [hn]
    have HN := hide hn
    have HNw := hide hnews
    clear hnews HL h hn
    have hq := eq_some_nil
    go_enter Try.func16, Try.ntmps16
    go_wp2_with (first
      | (at_builtin; refine wpList_append_row (P := Try.prog) rfl (.tmp 6) (.tmp 7) 22 rfl w.heap.size 52 i0 _ 4 32 Try.underlying22 hi0 hz0 hz1 hz2 rfl (by decide) (.slice none 0 0) 0 [] rfl ?_ (.slice (some ad) n c) n (rectCells l) rfl ?_ ?_ (rect_oneCell _) (by unfold maxLen; omega) (by omega) (Nat.le_refl _) ?_; exact World.ownsRow_nil _ _ _ _; (rw [rectCells_len, HN.out]); exact HNw.out; intro v3 w3 ho3 hg3 hn3 ha3; have HB3 := hide ((Below.refl w.heap.size w).grown hg3 (Nat.le_refl _) (fun k hk => by simp [Value.ownBlock] at hk)); have hs3 : w.heap.size ≤ w3.heap.size := HB3.out.size; have HO3 := hide ho3; clear ho3 hg3 hn3 ha3)
      | (at_builtin; refine wpList_append_lies _ rfl (.tmp 9) (.tmp 12) 22 rfl w.heap.size 52 i0 _ 4 32 Try.underlying22 hi0 hz0 hz1 hz2 rfl (by decide) v3 (0 + n) ([] ++ rectCells l) rfl (HO3.out.alloc _) ⟨w3.heap.size, 0, none⟩ 2 2 (rectCells [farR, farR]) rfl rfl (World.news_of_block (cs := #[.int .i64 (-7070), .int .i64 0, .int .i64 0, .int .i64 0, .int .i64 (-7070), .int .i64 0, .int .i64 0, .int .i64 0]) (t := 52) (fr := (0, 0)) (heap_alloc_new w3 _)) (rect_oneCell _) (by omega) (by unfold maxLen; omega) (by omega) (by simp; omega) _ rfl ?_; intro g4 c4 w4 ho4 hg4 ha4 hl4; have HO4 := hide ho4; have hc4 : n ≤ c4 := (by have := own_cap ho4; omega); have HB4 := hide ((HB3.out.alloc hs3 _).grown hg4 (by simp; omega) (fun k hk => (HO3.out.lt k hk).1)); clear ho4 hg4 ha4 hl4))
    go_ret
    refine ⟨_, rfl, .inr ⟨⟨ad, c, by rw [HN.out]⟩, g4, c4, by rw [HN.out]; rfl, ?_⟩, HB4.out⟩
    have h9 := HO4.out
    rw [Nat.zero_add, List.nil_append] at h9
    rw [HN.out, rectCells_append]
    exact h9

end Go.Proofs.Ytofinpocigbbeaa
