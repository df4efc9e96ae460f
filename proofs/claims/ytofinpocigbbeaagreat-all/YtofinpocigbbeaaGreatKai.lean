import Derived.Test.YtofinpocigbbeaaGreatKaa
set_option maxHeartbeats 1000000
set_option linter.unusedSimpArgs false
namespace Go.Proofs.YtofinpocigbbeaaGreat
open Go.Proofs.Tryz Go.RowKit
def FU(a b c d:Int):Bool:=decide (a<=d/\b<=d/\c<=d)
theorem Pv{a b:Bool}(h:a=b):Ending.returned (.bool a)=.returned (.bool b):=by rw[h]
theorem GS(a b c d:Int)(w:World):
  Calls prog 101 #[.agg #[.int .u8 a,.int .u8 b,.int .u8 c,.int .u8 d]] w fun e w'=>
   e=.returned (.bool (FU a b c d))/\w'=w.alloc (.cells #[.int .u8 a,.int .u8 b,.int .u8 c,.int .u8 d] 51):=by
 go_enter func101,ntmps101
 go_wp2;all_goals
  go_ret;refine⟨Pv ?_,rfl⟩;unfold FU;rw[decide_eq_decide];omega
theorem ID(a b c d:Int)(w:World):
  Calls prog 177 #[.agg #[.int .u8 a,.int .u8 b,.int .u8 c,.int .u8 d]] w fun e w'=>
   e=.returned (.bool (FU a b c d))/\w'=w.alloc (.cells #[.int .u8 a,.int .u8 b,.int .u8 c,.int .u8 d] 51):=by
 go_enter func177,ntmps177
 go_wp2;all_goals
  go_ret;refine⟨Pv ?_,rfl⟩;unfold FU;rw[Bool.eq_iff_iff]
  try rw[bT]
  try rw[bT]
  simp only[Bool.false_eq_true,false_iff, *]
  try simp
  try omega
def mix(s d a:Int):Int:=(s+(d*(255-a)+127)/255)%256
theorem Gb(e d:Int)(he:0<=e/\e<=255)(hd:0<=d/\d<=255):0<=e*(255-d)/\e*(255-d)<=65025:=by
 refine⟨Int.mul_nonneg he.1 (by omega),?_⟩;have h1:e*(255-d)<=255*(255-d):=Int.mul_le_mul_of_nonneg_right he.2 (by omega);omega
theorem Pw(a b c d e f g h:Int)(w:World)(hd:0<=d/\d<=255)(he:0<=e/\e<=255)(hf:0<=f/\f<=255)(hg:0<=g/\g<=255)(hh:0<=h/\h<=255):
  Calls prog 171 #[.agg #[.int .u8 a,.int .u8 b,.int .u8 c,.int .u8 d],.agg #[.int .u8 e,.int .u8 f,.int .u8 g,.int .u8 h]] w fun x w'=>
   x=.returned (.agg #[.int .u8 (mix a e d),.int .u8 (mix b f d),.int .u8 (mix c g d),.int .u8 (mix d h d)])/\uj w w':=by
 have m0:=Gb e d he hd;have m1:=Gb f d hf hd;have m2:=Gb g d hg hd;have m3:=Gb h d hh hd;go_enter func171,ntmps171
 go_wp2;refine wp_loop_rounds 5 ?_;rw[rounds_succ];go_wp2
 go_region
 go_wp2;rw[rounds_succ];go_wp2
 go_region
 go_wp2;rw[rounds_succ];go_wp2
 go_region
 go_wp2;rw[rounds_succ];go_wp2
 go_region
 go_wp2;rw[rounds_succ];go_wp2;refine cU (v:=.agg #[.int .u8 (mix a e d),.int .u8 (mix b f d),.int .u8 (mix c g d),.int .u8 (mix d h d)]) (by simp[results,results171,go_sem,mix]) rfl ⟨rfl,?_⟩;repeat(first|exact aN _ _|refine bD ?_ |refine cO ?_ (by simp) _|refine bS ?_ (by simp<;>omega) _)
theorem Px(a b c d e f g h:Int)(w:World)(ha:0<=a/\a<=255)(hb:0<=b/\b<=255)(hc:0<=c/\c<=255)(hd:0<=d/\d<=255)(he:0<=e/\e<=255)(hf:0<=f/\f<=255)(hg:0<=g/\g<=255)(hh:0<=h/\h<=255):
  Calls prog 178 #[.agg #[.int .u8 a,.int .u8 b,.int .u8 c,.int .u8 d],.agg #[.int .u8 e,.int .u8 f,.int .u8 g,.int .u8 h]] w fun x w'=>
   x=.returned (.agg #[.int .u8 (mix a e d),.int .u8 (mix b f d),.int .u8 (mix c g d),.int .u8 (mix d h d)])/\uj w w':=by
 have m0:=Gb e d he hd;have m1:=Gb f d hf hd;have m2:=Gb g d hg hd;have m3:=Gb h d hh hd;go_enter func178,ntmps178
 go_wp2;refine wp_loop_rounds 5 ?_;rw[rounds_succ];go_wp2
 go_region
 go_wp2;rw[rounds_succ];go_wp2
 go_region
 go_wp2;rw[rounds_succ];go_wp2
 go_region
 go_wp2;rw[rounds_succ];go_wp2
 go_region
 go_wp2;rw[rounds_succ];go_wp2;refine cU (v:=.agg #[.int .u8 (mix a e d),.int .u8 (mix b f d),.int .u8 (mix c g d),.int .u8 (mix d h d)]) (by simp[results,results178,go_sem,mix]) rfl ⟨rfl,?_⟩;repeat(first|exact aN _ _|refine bD ?_ |refine cO ?_ (by simp) _|refine bS ?_ (by simp<;>omega) _)
theorem X2{W w1:World}(hb:uj W w1):(∀b o,b<W.heap.size->w1.cell? (jA b o)=W.cell? (jA b o))/\(∀b o,b<W.heap.size->w1.frozen? (jA b o)=W.frozen? (jA b o)):=
 ⟨fun b o h=>hb.cell (p:=(jA b o)) h,fun b o h=>hb.frozen (p:=(jA b o)) h⟩
theorem Yp(a b c d e f g h:Int)(w:World)(hd:0<=d/\d<=255)(he:0<=e/\e<=255)(hf:0<=f/\f<=255)(hg:0<=g/\g<=255)(hh:0<=h/\h<=255)(h1:FU a b c d=true)(h2:FU e f g h=true):
  Calls prog 125 #[.agg #[.int .u8 a,.int .u8 b,.int .u8 c,.int .u8 d],.agg #[.int .u8 e,.int .u8 f,.int .u8 g,.int .u8 h]] w fun x w'=>
   x=.returned (.tuple #[.agg #[.int .u8 (mix a e d),.int .u8 (mix b f d),.int .u8 (mix c g d),.int .u8 (mix d h d)],vj 0])/\uj w w':=by
 go_enter func125,ntmps125
 go_wp2_with(first
  |(go_at_call 101;refine(GS _ _ _ _ _).mono ?_;rintro x w' ⟨rfl,rfl⟩)
  |(go_at_call 171;refine(Pw a b c d e f g h _ hd he hf hg hh).mono ?_;rintro x w1 ⟨rfl,hbl⟩;obtain⟨hcl,hfl⟩:=X2 hbl;have hz:w.heap.size+2<w1.heap.size:=(by have:=hbl.size;simp at this;omega)))
 refine cU (v:=.tuple #[.agg #[.int .u8 (mix a e d),.int .u8 (mix b f d),.int .u8 (mix c g d),.int .u8 (mix d h d)],vj 0]) (by simp[results,results125,go_sem,hcl]) rfl ⟨rfl,?_⟩;repeat(first|refine cO ?_ (by simp<;>omega) _)
 refine Below.trans ?_ (hbl.mono (by simp;try omega));repeat(first|exact aN _ _|refine bD ?_ |refine cO ?_ (by simp<;>omega) _|refine bS ?_ (by simp<;>omega) _)
theorem Yq(a b c d e f g h:Int)(w:World)(h1:FU a b c d=false):
  Calls prog 125 #[.agg #[.int .u8 a,.int .u8 b,.int .u8 c,.int .u8 d],.agg #[.int .u8 e,.int .u8 f,.int .u8 g,.int .u8 h]] w fun x w'=>
   x=.returned (.tuple #[.agg #[.int .u8 0,.int .u8 0,.int .u8 0,.int .u8 0],vj 4])/\uj w w':=by
 go_enter func125,ntmps125
 go_wp2_with(first
  |(go_at_call 101;refine(GS _ _ _ _ _).mono ?_;rintro x w' ⟨rfl,rfl⟩))
 refine cU (v:=.tuple #[.agg #[.int .u8 0,.int .u8 0,.int .u8 0,.int .u8 0],vj 4]) (by simp[results,results125,go_sem]) rfl ⟨rfl,?_⟩;repeat(first|exact aN _ _|refine bD ?_ |refine cO ?_ (by simp<;>omega) _|refine bS ?_ (by simp<;>omega) _)
theorem Yr(a b c d e f g h:Int)(w:World)(h1:FU a b c d=true)(h2:FU e f g h=false):
  Calls prog 125 #[.agg #[.int .u8 a,.int .u8 b,.int .u8 c,.int .u8 d],.agg #[.int .u8 e,.int .u8 f,.int .u8 g,.int .u8 h]] w fun x w'=>
   x=.returned (.tuple #[.agg #[.int .u8 0,.int .u8 0,.int .u8 0,.int .u8 0],vj 4])/\uj w w':=by
 go_enter func125,ntmps125
 go_wp2_with(first
  |(go_at_call 101;refine(GS _ _ _ _ _).mono ?_;rintro x w' ⟨rfl,rfl⟩))
 refine cU (v:=.tuple #[.agg #[.int .u8 0,.int .u8 0,.int .u8 0,.int .u8 0],vj 4]) (by simp[results,results125,go_sem]) rfl ⟨rfl,?_⟩;repeat(first|exact aN _ _|refine bD ?_ |refine cO ?_ (by simp<;>omega) _|refine bS ?_ (by simp<;>omega) _)
theorem Ys(a b c d e f g h:Int)(w:World)(ha:0<=a/\a<=255)(hb:0<=b/\b<=255)(hc:0<=c/\c<=255)(hd:0<=d/\d<=255)(he:0<=e/\e<=255)(hf:0<=f/\f<=255)(hg:0<=g/\g<=255)(hh:0<=h/\h<=255)(h1:FU a b c d=true)(h2:FU e f g h=true):
  Calls prog 126 #[.agg #[.int .u8 a,.int .u8 b,.int .u8 c,.int .u8 d],.agg #[.int .u8 e,.int .u8 f,.int .u8 g,.int .u8 h]] w fun x w'=>
   x=.returned (.tuple #[.agg #[.int .u8 (mix a e d),.int .u8 (mix b f d),.int .u8 (mix c g d),.int .u8 (mix d h d)],vj 0])/\uj w w':=by
 go_enter func126,ntmps126
 go_wp2_with(first
  |(go_at_call 177;refine(ID _ _ _ _ _).mono ?_;rintro x w' ⟨rfl,rfl⟩)
  |(go_at_call 178;refine(Px a b c d e f g h _ ha hb hc hd he hf hg hh).mono ?_;rintro x w1 ⟨rfl,hbl⟩;obtain⟨hcl,hfl⟩:=X2 hbl;have hz:w.heap.size+2<w1.heap.size:=(by have:=hbl.size;simp at this;omega)))
 refine cU (v:=.tuple #[.agg #[.int .u8 (mix a e d),.int .u8 (mix b f d),.int .u8 (mix c g d),.int .u8 (mix d h d)],vj 0]) (by simp[results,results126,go_sem,hcl]) rfl ⟨rfl,?_⟩;repeat(first|refine cO ?_ (by simp<;>omega) _)
 refine Below.trans ?_ (hbl.mono (by simp;try omega));repeat(first|exact aN _ _|refine bD ?_ |refine cO ?_ (by simp<;>omega) _|refine bS ?_ (by simp<;>omega) _)
theorem Yt(a b c d e f g h:Int)(w:World)(h1:FU a b c d=false):
  Calls prog 126 #[.agg #[.int .u8 a,.int .u8 b,.int .u8 c,.int .u8 d],.agg #[.int .u8 e,.int .u8 f,.int .u8 g,.int .u8 h]] w fun x w'=>
   x=.returned (.tuple #[.agg #[.int .u8 0,.int .u8 0,.int .u8 0,.int .u8 0],vj 4])/\uj w w':=by
 go_enter func126,ntmps126
 go_wp2_with(first
  |(go_at_call 177;refine(ID _ _ _ _ _).mono ?_;rintro x w' ⟨rfl,rfl⟩))
 refine cU (v:=.tuple #[.agg #[.int .u8 0,.int .u8 0,.int .u8 0,.int .u8 0],vj 4]) (by simp[results,results126,go_sem]) rfl ⟨rfl,?_⟩;repeat(first|exact aN _ _|refine bD ?_ |refine cO ?_ (by simp<;>omega) _|refine bS ?_ (by simp<;>omega) _)
theorem Yu(a b c d e f g h:Int)(w:World)(h1:FU a b c d=true)(h2:FU e f g h=false):
  Calls prog 126 #[.agg #[.int .u8 a,.int .u8 b,.int .u8 c,.int .u8 d],.agg #[.int .u8 e,.int .u8 f,.int .u8 g,.int .u8 h]] w fun x w'=>
   x=.returned (.tuple #[.agg #[.int .u8 0,.int .u8 0,.int .u8 0,.int .u8 0],vj 4])/\uj w w':=by
 go_enter func126,ntmps126
 go_wp2_with(first
  |(go_at_call 177;refine(ID _ _ _ _ _).mono ?_;rintro x w' ⟨rfl,rfl⟩))
 refine cU (v:=.tuple #[.agg #[.int .u8 0,.int .u8 0,.int .u8 0,.int .u8 0],vj 4]) (by simp[results,results126,go_sem]) rfl ⟨rfl,?_⟩;repeat(first|exact aN _ _|refine bD ?_ |refine cO ?_ (by simp<;>omega) _|refine bS ?_ (by simp<;>omega) _)
theorem X4(a b c d e f g h:Int)(w:World):(Op.equalIn 10000 51 (.agg #[.int .u8 a,.int .u8 b,.int .u8 c,.int .u8 d]) (.agg #[.int .u8 e,.int .u8 f,.int .u8 g,.int .u8 h])).run prog w=.ok (a==e&&(b==f&&(c==g&&d==h))) w:=by
 have u3:=underlying5;have a3:=Tryz.isAgg5;have z3:=Tryz.sizeOf5;rw[show(10000:Nat)=9999+1 from rfl,Op.equalIn];simp only[Sem.run_bind,run_underlying underlying51,Result.andThen_ok];simp only[Std.Legacy.Range.forIn_eq_forIn_range',Std.Legacy.Range.size,Nat.sub_zero,Nat.add_sub_cancel,Nat.div_one,List.range'_succ,List.range'_zero,List.forIn_cons,List.forIn_nil]
 go_simp
 by_cases h1:a=e<;>by_cases h2:b=f<;>by_cases h3:c=g<;>by_cases h4:d=h<;>simp[h1,h2,h3,h4]
end Go.Proofs.YtofinpocigbbeaaGreat
