/- Small texts, one behind the other: LinA, LinB, CkA, PmRdA, PmRdB, PmRdC, TdA, RqAdd, LinG, RfHS. -/
import Derived.Test.YtjmndjmhjleabaaGreatDoorPk11
import Derived.Test.YtjmndjmhjleabaaGreatDoorPk4
import Derived.Test.YtjmndjmhjleabaaGreatDoorPk5
import Derived.Test.YtjmndjmhjleabaaGreatDoorPk10
import Derived.Test.YtjmndjmhjleabaaGreatDoorBase
import Derived.Test.YtjmndjmhjleabaaGreatDoorProg
import Derived.Test.YtjmndjmhjleabaaGreatDoorPk18
import Derived.Test.YtjmndjmhjleabaaGreatDoorPk15
import Derived.Deep.QuietTactic
import Derived.BigQuiet
set_option maxHeartbeats 4000000
set_option maxRecDepth 100000
open Go.Proofs.Tryz
namespace Go.Proofs.YtjmndjmhjleabaaGreatDoor
open Go.RowKit
def aJ (w:World)(S:Nat->Prop)(g:Nat)(s:Ln.St):Prop :=
 ∃ao cap, w.heap[g]? = some (.cells #[.slice ao s.line.length cap, .bool s.ending, .int .i64 (s.code : Int)] 192 (0, 0)) ∧
   aT w 0 5 ao cap s.line∧S g∧∀a,ao=some a->S a.block
theorem aJ.lt {w:World}{S:Nat->Prop}{g:Nat}{s:Ln.St}(h:aJ w S g s):g<w.heap.size:=by
 obtain⟨_,_,hg,_⟩:=h;exact(Array.getElem?_eq_some_iff.1 hg).1
theorem aJ.mono {w:World}{S S':Nat->Prop}{g:Nat}{s:Ln.St}(h:aJ w S g s)(hs:∀k,k<w.heap.size->S k->S' k):aJ w S' g s:=by
 obtain⟨ao,cap,hg,ho,h1,h2⟩:=h;exact⟨ao,cap,hg,ho,hs g (Array.getElem?_eq_some_iff.1 hg).1 h1,fun a e=>hs _ (ho.block a e).2 (h2 a e)⟩
theorem aJ.turns {w w':World}{S S':Nat->Prop}{g:Nat}{s:Ln.St}(h:aJ w S g s)(ht:Turns S' w w')(hs:∀k,S k->¬S' k):aJ w' S g s:=by
 obtain⟨ao,cap,hg,ho,h1,h2⟩:=h;exact⟨ao,cap,ht.row hg (hs g h1),ho.turns ht (fun a e=>hs _ (h2 a e)),h1,h2⟩
theorem aJ.drewN {w:World}{S:Nat->Prop}{g:Nat}{s:Ln.St}(h:aJ w S g s)(n:Nat):aJ (w.drewN n) S g s:=h.turns (Turns.drewN (fun _=>False) w n) (fun _ _ e=>e)
theorem aJ.code {w:World}{S:Nat->Prop}{g:Nat}{s:Ln.St}(h:aJ w S g s)(k:Nat):aJ (w.setCell ⟨g,2,none⟩ (.int .i64 (k:Int))) S g { s with code:=k }∧Turns S w (w.setCell ⟨g,2,none⟩ (.int .i64 (k:Int))):=by
 obtain⟨ao,cap,hg,ho,h1,h2⟩:=h;refine⟨⟨ao,cap,?_,ho.turns (Turns.setCell (fun i=>i=g) w _ _ rfl) ?_,h1,h2⟩,Turns.setCell S w _ _ h1⟩
 . rw[heap_setCell_same w g 2 _ _ _ hg];rfl
 . intro a e;have:=fB hg ho (by decide);rw[ay,e] at this;intro e2;exact this (by simp[au,e2])
theorem aJ.ends {w:World}{S:Nat->Prop}{g:Nat}{s:Ln.St}(h:aJ w S g s)(b:Bool):aJ (w.setCell ⟨g,1,none⟩ (.bool b)) S g { s with ending:=b }∧Turns S w (w.setCell ⟨g,1,none⟩ (.bool b)):=by
 obtain⟨ao,cap,hg,ho,h1,h2⟩:=h;refine⟨⟨ao,cap,?_,ho.turns (Turns.setCell (fun i=>i=g) w _ _ rfl) ?_,h1,h2⟩,Turns.setCell S w _ _ h1⟩
 . rw[heap_setCell_same w g 1 _ _ _ hg];rfl
 . intro a e;have:=fB hg ho (by decide);rw[ay,e] at this;intro e2;exact this (by simp[au,e2])
theorem aJ.drop {w:World}{S:Nat->Prop}{g:Nat}{s:Ln.St}(h:aJ w S g s):aJ (w.setCell ⟨g,0,none⟩ (.slice none 0 0)) S g { s with line:=[] }∧Turns S w (w.setCell ⟨g,0,none⟩ (.slice none 0 0)):=by
 obtain⟨ao,cap,hg,ho,h1,h2⟩:=h;refine⟨⟨none,0,?_,aT.nil _ _ _,h1,fun a e=>by cases e⟩,Turns.setCell S w _ _ h1⟩;rw[heap_setCell_same w g 0 _ _ _ hg];rfl
theorem aJ.grow {w w1:World}{S:Nat->Prop}{g:Nat}{s:Ln.St}{l:List UInt8}{ao:Option Addr}{cap:Nat}{aD:Option Addr}{cap':Nat}(hg:w.heap[g]? = some (.cells #[.slice ao s.line.length cap,.bool s.ending,.int .i64 (s.code:Int)] 192 (0,0)))(h1:S g)(ho:aT w1 0 5 aD cap' l)(ht:Turns (fun k=>S k∧k≠g) w w1)(ha:∀a,aD=some a->av S w a.block)(n:Nat)(hn:n=l.length):
 aJ (w1.setCell ⟨g,0,none⟩ (.slice aD n cap')) (av S w) g { s with line:=l }∧Turns S w (w1.setCell ⟨g,0,none⟩ (.slice aD n cap')):=by
 subst hn;have hg1:=ht.row hg (fun e=>e.2 rfl);refine⟨⟨aD,cap',?_,ho.turns (Turns.setCell (fun i=>i=g) w1 _ _ rfl) ?_,Or.inl h1,ha⟩,(ht.mono (fun k e=>e.1)).trans (Turns.setCell S w1 _ _ h1) (fun i e _=>e)⟩
 . rw[heap_setCell_same w1 g 0 _ _ _ hg1];rfl
 . intro a e;have:=fB hg1 ho (by decide);rw[ay,e] at this;intro e2;exact this (by simp[au,e2])
theorem mY (w:World):
 Calls prog 81 #[] w fun e w'=>e=.returned (.pointer (some ⟨w.heap.size,0,none⟩))∧aJ w' (fun k=>w.heap.size<=k) w.heap.size Ln.start∧Below w.heap.size w w':=by
 go_enter func81,ntmps81;go_wp2;go_ret;exact⟨rfl,⟨none,0,heap_alloc_new w _,aT.nil _ _ _,Nat.le_refl _,fun a e=>by cases e⟩,(Below.refl _ _).alloc (Nat.le_refl _) _⟩
theorem iQ (w:World)(S:Nat->Prop)(g:Nat)(s:Ln.St)(c:UInt8)(h:aJ w S g s):
 Calls prog 139 #[.pointer (some ⟨g,0,none⟩),.int .u8 c.toNat] w fun e w'=>e=.returned (.int .i64 (Ln.fault s c:Int))∧w'=w:=by
 obtain⟨ao,cap,hg,_⟩:=h;have c0:w.cell? ⟨g,0,none⟩=some (.slice ao s.line.length cap):=cell_of_row w g 0 _ _ _ hg;have c1:w.cell? ⟨g,1,none⟩=some (.bool s.ending):=cell_of_row w g 1 _ _ _ hg;clear hg;have HV:=H9 (lD (c.toNat:Int) w);by_cases hq:s.ending=(c==10)
 . by_cases ql:c=13
   . have UG:((c.toNat:Int)==13)=true:=by rw[ql];rfl
     have t10:((c.toNat:Int)==10)=false:=by rw[ql];rfl
     have hF:Ln.fault s c=0:=by unfold Ln.fault;rw[if_pos hq,if_pos (Or.inl ql)]
     have hE:s.ending=false:=by rw[hq,ql];rfl
     rw[hF];rw[hE] at c1;clear hF hq hE ql;go_enter func139,ntmps139;go_wp2;go_ret;exact⟨rfl,rfl⟩
   . have UG:((c.toNat:Int)==13)=false:=gX ql;by_cases h10:c=10
     . have t10:((c.toNat:Int)==10)=true:=by rw[h10];rfl
       have hF:Ln.fault s c=0:=by unfold Ln.fault;rw[if_pos hq,if_pos (Or.inr h10)]
       have hE:s.ending=true:=by rw[hq,h10];rfl
       rw[hF];rw[hE] at c1;clear hF hq hE ql h10;go_enter func139,ntmps139;go_wp2;go_ret;exact⟨rfl,rfl⟩
     . have t10:((c.toNat:Int)==10)=false:=gX h10;have hE:s.ending=false:=by rw[hq];exact beq_eq_false_iff_ne.2 h10
       have hno:¬(c=13∨c=10):=by rintro (e | e) <;> contradiction
       rw[hE] at c1;cases hv:Ch.visible (c.toNat:Int)
       . have hF:Ln.fault s c=3:=by unfold Ln.fault;rw[if_pos hq,if_neg hno,if_pos hv]
         rw[hv] at HV;rw[hF];clear hF hq hE ql h10 hno hv;go_enter func139,ntmps139;go_wp2_with fail
         refine HV.o.mono ?_;rintro e w' ⟨rfl,hw⟩;subst hw;go_wp2;go_ret;exact⟨rfl,rfl⟩
       . rw[hv] at HV;by_cases h2:200<=s.line.length
         . have hF:Ln.fault s c=4:=by unfold Ln.fault;rw[if_pos hq,if_neg hno,if_neg (by rw[hv];simp),if_pos h2]
           have t2:decide ((s.line.length:Int)≥200)=true:=by rw[decide_eq_true_eq];omega
           rw[hF];clear hF hq hE ql h10 hno hv;go_enter func139,ntmps139;go_wp2_with fail
           refine HV.o.mono ?_;rintro e w' ⟨rfl,hw⟩;subst hw;go_wp2;go_ret;exact⟨rfl,rfl⟩
         . have hF:Ln.fault s c=0:=by unfold Ln.fault;rw[if_pos hq,if_neg hno,if_neg (by rw[hv];simp),if_neg h2]
           have t2:decide ((s.line.length:Int)≥200)=false:=by rw[decide_eq_false_iff_not];omega
           rw[hF];clear hF hq hE ql h10 hno hv;go_enter func139,ntmps139;go_wp2_with fail
           refine HV.o.mono ?_;rintro e w' ⟨rfl,hw⟩;subst hw;go_wp2;go_ret;exact⟨rfl,rfl⟩
 . have hF:Ln.fault s c=2:=by unfold Ln.fault;rw[if_neg hq]
   rw[hF];by_cases h10:c=10
   . have t10:((c.toNat:Int)==10)=true:=by rw[h10];rfl
     have hE:s.ending=false:=by
      cases hh:s.ending
      . rfl
      . exact absurd (by rw[hh,h10];rfl) hq
     rw[hE] at c1;clear hF hq hE h10;go_enter func139,ntmps139;go_wp2;go_ret;exact⟨rfl,rfl⟩
   . have t10:((c.toNat:Int)==10)=false:=gX h10;have hE:s.ending=true:=by
      cases hh:s.ending
      . exact absurd (by rw[hh];exact(beq_eq_false_iff_ne.2 h10).symm) hq
      . rfl
     rw[hE] at c1;clear hF hq hE h10;go_enter func139,ntmps139;go_wp2;go_ret;exact⟨rfl,rfl⟩
def Ln.fed (s:Ln.St)(c:UInt8):Value:=.tuple #[.string ⟨(Ln.text s c).toArray⟩,.bool (Ln.ends s c),.int .i64 ((Ln.next s c).code:Int)]
theorem Ln.xO {s s':Ln.St}{c:UInt8}{t:List UInt8}{b:Bool}{k:Nat}(ht:Ln.text s c=t)(hb:Ln.ends s c=b)(hn:Ln.next s c=s')(hk:s'.code=k):Ln.fed s c=.tuple #[.string ⟨t.toArray⟩,.bool b,.int .i64 (k:Int)]:=by
 unfold Ln.fed;rw[ht,hb,hn,hk]
theorem pG {w:World}{S:Nat->Prop}{g:Nat}{s:Ln.St}(h:aJ w S g s)(W:World):aJ w (av S W) g s:=h.mono (fun _ _ e=>Or.inl e)
theorem aU.xP (W:World)(c:UInt8)(t:Nat)(fr:Nat×Nat){k:Nat}(hk:W.heap.size=k):aU (W.alloc (.cells #[.int .u8 (c.toNat:Int)] t fr)) (Option.some ⟨k,0,Option.none⟩) 1 [c]:=hk▸aU.one W c t fr
theorem Ou {W w3:World}{g:Nat}{row:Obj}{r:Option Nat}(hg:W.heap[g]? = some row)(ob:Obj)(hG:(W.alloc ob).grownBy w3 r)(hr:some g≠r):w3.heap[g]? = some row:=by
 have hlt:g<W.heap.size:=(Array.getElem?_eq_some_iff.1 hg).1;have:=hG.block g (by simp;omega) hr;rw[this,(World.grownBy_alloc W ob none).block g hlt (by simp)];exact hg
theorem Gl (w:World)(S:Nat->Prop)(g:Nat)(s:Ln.St)(c:UInt8)(h:aJ w S g s)(hc:s.code≠0):
 Calls prog 101 #[.pointer (some ⟨g,0,none⟩),.int .u8 c.toNat] w fun e w'=>e=.returned (Ln.fed s c)∧aJ w' (av S w) g (Ln.next s c)∧Turns S w w':=by
 have HA:=Ln.again c hc;rw[Ln.xO HA.2.1 HA.2.2 HA.1 rfl,HA.1];clear HA;have HS:=H9 h;obtain⟨ao,cap,hg,_⟩:=h;have c2:w.cell? ⟨g,2,none⟩=some (.int .i64 (s.code:Int)):=cell_of_row w g 2 _ _ _ hg;have t0:((s.code:Int)==0)=false:=by rw[beq_eq_false_iff_ne];omega
 have t1:((s.code:Int) != 0)=true:=by rw[bne_iff_ne];omega
 clear hg hc;go_enter func101,ntmps101;go_wp2;go_quiet (fail)
 go_wp2;go_ret3
 exact⟨rfl,pG (HS.o.drewN _) w,Turns.drewN _ _ _⟩
theorem KG (w:World)(S:Nat->Prop)(g:Nat)(s:Ln.St)(c:UInt8)(k:Nat)(h:aJ w S g s)(hc:s.code=0)(hf:Ln.fault s c=k)(hk:k≠0):
 Calls prog 101 #[.pointer (some ⟨g,0,none⟩),.int .u8 c.toNat] w fun e w'=>e=.returned (Ln.fed s c)∧aJ w' (av S w) g (Ln.next s c)∧Turns S w w':=by
 have hn:Ln.next s c={ s with code:=k }:=by unfold Ln.next;rw[if_neg (by omega),hf,if_pos hk]
 rw[Ln.xO (t:=[]) (b:=false) (by unfold Ln.text;rw[if_neg (fun e=>hk (hf.symm.trans e.2.1))]) (by unfold Ln.ends;rw[decide_eq_false_iff_not];exact fun e=>hk (hf.symm.trans e.2.1)) hn rfl,hn];have HF:=H9 (iQ w S g s c h);rw[hf] at HF;have HS:=H9 (h.code k);obtain⟨ao,cap,hg,_⟩:=h;have c2:w.cell? ⟨g,2,none⟩=some (.int .i64 0):=by
  rw[cell_of_row w g 2 _ _ _ hg];simp[hc]
 have f2:w.frozen? ⟨g,2,none⟩=false:=frozen_of_row w g 2 _ _ hg;have t1:((k:Int) != 0)=true:=by rw[bne_iff_ne];omega
 clear hg hc hf hn hk;go_enter func101,ntmps101;go_wp2_with fail
 refine HF.o.mono ?_;rintro e w1 ⟨rfl,hw⟩;subst hw;go_wp2;go_quiet (fail)
 go_wp2;go_ret3
 exact⟨rfl,pG (HS.o.1.drewN _) _,HS.o.2.trans (Turns.drewN S _ _) (fun _ e _=>e)⟩
theorem Ov (w:World)(S:Nat->Prop)(g:Nat)(s:Ln.St)(h:aJ w S g s)(hc:s.code=0)(hf:Ln.fault s 10=0):
 Calls prog 101 #[.pointer (some ⟨g,0,none⟩),.int .u8 10] w fun e w'=>e=.returned (Ln.fed s 10)∧aJ w' (av S w) g (Ln.next s 10)∧Turns S w w':=by
 have hn:Ln.next s 10=⟨[],false,0⟩:=by unfold Ln.next;rw[if_neg (by omega),hf];rfl
 rw[Ln.xO (t:=s.line) (b:=true) (by unfold Ln.text;rw[if_pos ⟨hc,hf,rfl⟩]) (by unfold Ln.ends;rw[decide_eq_true_eq];exact⟨hc,hf,rfl⟩) hn rfl,hn];have HF:=H9 (iQ w S g s 10 h);rw[hf] at HF;have HS:=H9 (h.code 0);have HS2:=H9 (HS.o.1.drop);have BM:=H9 (HS2.o.1.ends false);obtain⟨ao,cap,hg,ho,_⟩:=h;have c0:w.cell? ⟨g,0,none⟩=some (.slice ao s.line.length cap):=cell_of_row w g 0 _ _ _ hg;have c1:w.cell? ⟨g,1,none⟩=some (.bool s.ending):=cell_of_row w g 1 _ _ _ hg;have c2:w.cell? ⟨g,2,none⟩=some (.int .i64 0):=by
  rw[cell_of_row w g 2 _ _ _ hg];simp[hc]
 have f0:w.frozen? ⟨g,0,none⟩=false:=frozen_of_row w g 0 _ _ hg;have f1:w.frozen? ⟨g,1,none⟩=false:=frozen_of_row w g 1 _ _ hg;have f2:w.frozen? ⟨g,2,none⟩=false:=frozen_of_row w g 2 _ _ hg;have hq:=(ho.qc.turns (w':=w.setCell ⟨g,2,none⟩ (.int .i64 0)) (Turns.setCell (fun i=>i=g) w _ _ rfl) (fun a e=>by
  have:=fB hg ho (by decide);rw[ay,e] at this;intro e2;exact this (by simp[au,e2]))).str (P:=prog) 31 9 5 underlying31 underlying5 underlying9
 generalize (⟨s.line.toArray⟩:ByteArray)=bs at hq ⊢;clear hg ho hc hf hn;go_enter func101,ntmps101;go_wp2_with fail
 refine HF.o.mono ?_;rintro e w1 ⟨rfl,hw⟩;subst hw;go_wp2;go_ret3
 exact⟨rfl,pG BM.o.1 _,HS.o.2.trans (HS2.o.2.trans BM.o.2 (fun _ e _=>e)) (fun _ e _=>e)⟩
theorem Ry (w:World)(S:Nat->Prop)(g:Nat)(s:Ln.St)(h:aJ w S g s)(hc:s.code=0)(hf:Ln.fault s 13=0):
 Calls prog 101 #[.pointer (some ⟨g,0,none⟩),.int .u8 13] w fun e w'=>e=.returned (Ln.fed s 13)∧aJ w' (av S w) g (Ln.next s 13)∧Turns S w w':=by
 have hn:Ln.next s 13=⟨s.line,true,0⟩:=by unfold Ln.next;rw[if_neg (by omega),hf,hc];rfl
 rw[Ln.xO (t:=[]) (b:=false) (by unfold Ln.text;rw[if_neg (fun e=>by cases e.2.2)]) (by unfold Ln.ends;rw[decide_eq_false_iff_not];exact fun e=>by cases e.2.2) hn rfl,hn];have HF:=H9 (iQ w S g s 13 h);rw[hf] at HF;have HS:=H9 (h.code 0);have BM:=H9 (HS.o.1.ends true);obtain⟨ao,cap,hg,ho,_⟩:=h;have c1:w.cell? ⟨g,1,none⟩=some (.bool s.ending):=cell_of_row w g 1 _ _ _ hg;have c2:w.cell? ⟨g,2,none⟩=some (.int .i64 0):=by
  rw[cell_of_row w g 2 _ _ _ hg];simp[hc]
 have f1:w.frozen? ⟨g,1,none⟩=false:=frozen_of_row w g 1 _ _ hg;have f2:w.frozen? ⟨g,2,none⟩=false:=frozen_of_row w g 2 _ _ hg;clear hg ho hc hf hn;go_enter func101,ntmps101;go_wp2_with fail
 refine HF.o.mono ?_;rintro e w1 ⟨rfl,hw⟩;subst hw;go_wp2;go_ret3
 exact⟨rfl,pG BM.o.1 _,HS.o.2.trans BM.o.2 (fun _ e _=>e)⟩
theorem KH (w:World)(S:Nat->Prop)(g:Nat)(s:Ln.St)(c:UInt8)(h:aJ w S g s)(hs:s.line.length<=200)(hc:s.code=0)(hf:Ln.fault s c=0)(h10:c≠10)(ql:c≠13):
 Calls prog 101 #[.pointer (some ⟨g,0,none⟩),.int .u8 c.toNat] w fun e w'=>e=.returned (Ln.fed s c)∧aJ w' (av S w) g (Ln.next s c)∧Turns S w w':=by
 have hn:Ln.next s c=⟨s.line++[c],s.ending,0⟩:=by unfold Ln.next;rw[if_neg (by omega),hf,if_neg (by omega),if_neg h10,if_neg ql,hc]
 rw[Ln.xO (t:=[]) (b:=false) (by unfold Ln.text;rw[if_neg (fun e=>h10 e.2.2)]) (by unfold Ln.ends;rw[decide_eq_false_iff_not];exact fun e=>h10 e.2.2) hn rfl,hn];have HF:=H9 (iQ w S g s c h);rw[hf] at HF;have t10:((c.toNat:Int)==10)=false:=gX h10;have UG:((c.toNat:Int)==13)=false:=gX ql;have HS:=H9 (h.code 0);obtain⟨ao,cap,hg,ho,h1,h2⟩:=h;obtain⟨i0,hi0,hz0,hz1,hz2⟩:=info_parts dQ;have Hi:=H9 hi0;have gQ:=H9 hz0;have gK:=H9 hz1;have gT:=H9 hz2
 have hne:∀a,ao=some a->a.block≠g:=fun a e e2=>by
  have:=fB hg ho (by decide);rw[ay,e] at this;exact this (by simp[au,e2])
 have c0:w.cell? ⟨g,0,none⟩=some (.slice ao s.line.length cap):=cell_of_row w g 0 _ _ _ hg;have c2:w.cell? ⟨g,2,none⟩=some (.int .i64 0):=by
  rw[cell_of_row w g 2 _ _ _ hg];simp[hc]
 have f0:w.frozen? ⟨g,0,none⟩=false:=frozen_of_row w g 0 _ _ hg;have f2:w.frozen? ⟨g,2,none⟩=false:=frozen_of_row w g 2 _ _ hg;have HO:=H9 (ho.turns (w':=w.setCell ⟨g,2,none⟩ (.int .i64 0)) (Turns.setCell (fun i=>i=g) w _ _ rfl) (fun a e=>hne a e));have HG:Hid ((w.setCell ⟨g,2,none⟩ (.int .i64 0)).heap[g]? = some (.cells #[.slice ao s.line.length cap,.bool s.ending,.int .i64 (0:Int)] 192 (0,0))):=by
  show _=_;rw[heap_setCell_same w g 2 _ _ _ hg];rfl
 have hlt:g<w.heap.size:=(Array.getElem?_eq_some_iff.1 hg).1;clear hg ho hf hn hi0 hz0 hz1 hz2 h10 ql;go_enter func101,ntmps101;go_wp2_with fail
 refine HF.o.mono ?_;rintro e w1 ⟨rfl,hw⟩;subst hw;have HN:some g≠au ao:=by
  cases ao with
  | none=>simp[au]
  | some a=>intro e;injection e with e;exact hne a rfl e.symm
 go_wp2_with (at_builtin;refine dF rfl (.tmp 23) (.tmp 25) 31 rfl 0 5 i0 underlying31 Hi.o gQ.o gK.o gT.o (l:=s.line) (l2:=[c]) rfl rfl (HO.o.alloc _) rfl rfl (aU.xP _ _ _ _ (by simp)) (by simp;omega) (Nat.zero_le _) ?_;intro fu aI w3 hO3 hG3 dJ;have h3:=Ou HG.o _ hG3 HN;have c3:w3.cell? ⟨g,0,none⟩=some (.slice ao s.line.length cap):=cell_of_row w3 g 0 _ _ _ h3;have f3:w3.frozen? ⟨g,0,none⟩=false:=frozen_of_row w3 g 0 _ _ h3;have mF:=H9 hO3;have tZ:=H9 hG3;have BN:=H9 dJ;clear hO3 hG3 dJ h3)
 go_ret3
 have hz:(w1.setCell ⟨g,2,none⟩ (.int .i64 0)).heap.size=w1.heap.size:=by simp
 have hT:Turns (fun k=>S k∧k≠g) (w1.setCell ⟨g,2,none⟩ (.int .i64 0)) w3 :=
  (Turns.bI (World.grownBy_alloc _ _ none) (fun k e => by cases e)).trans (Turns.bI tZ.o (S := fun k => S k ∧ k ≠ g) (fun k e => by
   cases ao with
   | none=>cases e
   | some a=>injection e with e;subst e;exact⟨h2 a rfl,hne a rfl⟩)) (fun _ e _=>e)
 have hA:∀a,fu=some a->av S (w1.setCell ⟨g,2,none⟩ (.int .i64 0)) a.block:=by
  intro a e;subst e;rcases BN.o with e | e
  . cases ao with
    | none=>cases e
    | some a'=>injection e with e;rw[e];exact Or.inl (h2 a' rfl)
  . injection e with e;rw[e];exact Or.inr (by simp)
 have hL:=aJ.grow (s:=⟨s.line,s.ending,0⟩) HG.o h1 mF.o hT hA (s.line.length+1) (by simp);refine⟨rfl,hL.1.mono (fun k _ e=>?_),HS.o.2.trans hL.2 (fun _ e _=>e)⟩;rcases e with e | e
 . exact Or.inl e
 . exact Or.inr (by omega)
theorem jq (w:World)(S:Nat->Prop)(g:Nat)(s:Ln.St)(c:UInt8)(h:aJ w S g s)(hs:s.line.length<=200):
 Calls prog 101 #[.pointer (some ⟨g,0,none⟩),.int .u8 c.toNat] w fun e w'=>e=.returned (Ln.fed s c)∧aJ w' (av S w) g (Ln.next s c)∧Turns S w w':=by
 by_cases hc:s.code=0
 . by_cases hf:Ln.fault s c=0
   . by_cases h10:c=10
     . subst h10;exact Ov w S g s h hc hf
     . by_cases ql:c=13
       . subst ql;exact Ry w S g s h hc hf
       . exact KH w S g s c h hs hc hf h10 ql
   . exact KG w S g s c _ h hc rfl hf
 . exact Gl w S g s c h hc
structure aV (w:World)(S:Nat->Prop)(g gl:Nat)(nx lf rm fd code:Int)(ln:Ln.St):Prop where
 row:w.heap[g]? = some (.cells #[.pointer (some ⟨gl,0,none⟩),.int .i64 nx,.int .i64 lf,.int .i64 rm,.int .i64 fd,.int .i64 code] 231 (0,0))
 mem:S g
 line:aJ w (fun k=>S k∧k≠g) gl ln
def jG (w:World)(S:Nat->Prop)(g:Nat)(s:Ck.St):Prop :=
 ∃gl nx lf rm fd ln,aV w S g gl nx lf rm fd (Ck.pc s:Int) ln∧(Ck.pc s=0->ln=s.ln∧nx=(Ck.nx s:Int)∧lf=(Ck.lf s:Int)∧rm=4000-(s.total:Int)∧fd=(s.count:Int))
section
variable {w w':World} {S S':Nat->Prop} {g gl:Nat} {nx lf rm fd code:Int} {ln:Ln.St}
theorem aV.mono (h:aV w S g gl nx lf rm fd code ln)(hs:∀k,k<w.heap.size->S k->S' k):aV w S' g gl nx lf rm fd code ln :=
 ⟨h.row,hs g (Array.getElem?_eq_some_iff.1 h.row).1 h.mem,h.line.mono (fun k hk e=>⟨hs k hk e.1,e.2⟩)⟩
theorem aV.turns (h:aV w S g gl nx lf rm fd code ln)(ht:Turns S' w w')(hs:∀k,S k->¬S' k):aV w' S g gl nx lf rm fd code ln :=
 ⟨ht.row h.row (hs g h.mem),h.mem,h.line.turns ht (fun k e=>hs k e.1)⟩
theorem aV.stay (h:aV w S g gl nx lf rm fd code ln)(hb:Below w.heap.size w w'):aV w' S g gl nx lf rm fd code ln:=h.turns (Turns.of_below (S:=fun _=>False) hb) (fun _ _ e=>e)
theorem aV.cell (h:aV w S g gl nx lf rm fd code ln)(j:Nat)(hj:j<6):w.cell? ⟨g,j,none⟩=#[Value.pointer (some ⟨gl,0,none⟩),.int .i64 nx,.int .i64 lf,.int .i64 rm,.int .i64 fd,.int .i64 code][j]?:=by
 match j,hj with
 | 0,_=>exact cell_of_row w g 0 _ _ _ h.row
 | 1,_=>exact cell_of_row w g 1 _ _ _ h.row
 | 2,_=>exact cell_of_row w g 2 _ _ _ h.row
 | 3,_=>exact cell_of_row w g 3 _ _ _ h.row
 | 4,_=>exact cell_of_row w g 4 _ _ _ h.row
 | 5,_=>exact cell_of_row w g 5 _ _ _ h.row
theorem aV.frozen (h:aV w S g gl nx lf rm fd code ln)(j:Nat):w.frozen? ⟨g,j,none⟩=false:=frozen_of_row w g j _ _ h.row
theorem aV.put (h:aV w S g gl nx lf rm fd code ln)(j:Nat)(v:Value){nx' lf' rm' fd' code':Int}
 (e:(#[Value.pointer (some ⟨gl,0,none⟩),.int .i64 nx,.int .i64 lf,.int .i64 rm,.int .i64 fd,.int .i64 code].setIfInBounds j v)=#[Value.pointer (some ⟨gl,0,none⟩),.int .i64 nx',.int .i64 lf',.int .i64 rm',.int .i64 fd',.int .i64 code']) :
 aV (w.setCell ⟨g,j,none⟩ v) S g gl nx' lf' rm' fd' code' ln:=by
 refine⟨?_,h.mem,h.line.turns (Turns.setCell (fun i=>i=g) w _ _ rfl) (fun k e=>e.2)⟩;rw[heap_setCell_same w g j _ _ _ h.row,e]
theorem aV.next (h:aV w S g gl nx lf rm fd code ln)(k:Int):aV (w.setCell ⟨g,1,none⟩ (.int .i64 k)) S g gl k lf rm fd code ln:=h.put 1 _ rfl
theorem aV.left (h:aV w S g gl nx lf rm fd code ln)(k:Int):aV (w.setCell ⟨g,2,none⟩ (.int .i64 k)) S g gl nx k rm fd code ln:=h.put 2 _ rfl
theorem aV.room (h:aV w S g gl nx lf rm fd code ln)(k:Int):aV (w.setCell ⟨g,3,none⟩ (.int .i64 k)) S g gl nx lf k fd code ln:=h.put 3 _ rfl
theorem aV.fields (h:aV w S g gl nx lf rm fd code ln)(k:Int):aV (w.setCell ⟨g,4,none⟩ (.int .i64 k)) S g gl nx lf rm k code ln:=h.put 4 _ rfl
theorem aV.AP (h:aV w S g gl nx lf rm fd code ln)(k:Int):aV (w.setCell ⟨g,5,none⟩ (.int .i64 k)) S g gl nx lf rm fd k ln:=h.put 5 _ rfl
theorem aV.turn (h:aV w S g gl nx lf rm fd code ln)(j:Nat)(v:Value):Turns S w (w.setCell ⟨g,j,none⟩ v):=Turns.setCell S w _ _ h.mem
end
theorem jG.mono {w:World}{S S':Nat->Prop}{g:Nat}{s:Ck.St}(h:jG w S g s)(hs:∀k,k<w.heap.size->S k->S' k):jG w S' g s:=by
 obtain⟨gl,nx,lf,rm,fd,ln,h,k⟩:=h;exact⟨gl,nx,lf,rm,fd,ln,h.mono hs,k⟩
theorem jG.turns {w w':World}{S S':Nat->Prop}{g:Nat}{s:Ck.St}(h:jG w S g s)(ht:Turns S' w w')(hs:∀k,S k->¬S' k):jG w' S g s:=by
 obtain⟨gl,nx,lf,rm,fd,ln,h,k⟩:=h;exact⟨gl,nx,lf,rm,fd,ln,h.turns ht hs,k⟩
theorem zK (w:World):
 Calls prog 143 #[] w fun e w'=>∃g,e=.returned (.pointer (some ⟨g,0,none⟩))∧jG w' (fun k=>w.heap.size<=k) g Ck.start∧Below w.heap.size w w':=by
 go_enter func143,ntmps143;go_wp2_with fail
 refine(mY w).mono ?_;rintro e w1 ⟨rfl,hL,hB⟩;have HL:=H9 hL;have HB:=H9 hB
 clear hL hB;go_wp2;go_ret;have hsz:=HB.o.size;have hlt:=HL.o.lt;have hT:Turns (fun _=>False) w1 (w1.alloc (.cells #[.pointer (some ⟨w.heap.size,0,none⟩),.int .i64 0,.int .i64 0,.int .i64 4000,.int .i64 0,.int .i64 0] 231)):=Turns.of_below ((Below.refl _ _).alloc (Nat.le_refl _) _);have hL2:=(HL.o.mono (S':=fun k=>w.heap.size<=k∧k≠w1.heap.size) (fun k hk e=>⟨e,by omega⟩)).turns hT (fun _ _ e=>e);exact⟨w1.heap.size,rfl,⟨w.heap.size,0,0,4000,0,Ln.start,⟨heap_alloc_new w1 _,hsz,hL2⟩,fun _=>⟨rfl,rfl,rfl,rfl,rfl⟩⟩,HB.o.trans ((Below.refl _ _).alloc hsz _)⟩
def bF (w:World)(g:Nat)(s:ByteArray)(i:Nat):Prop:=w.heap[g]? = some (.cells #[.string s,.int .i64 (i:Int)] 248 (0,0))
def only(g:Nat):Nat->Prop:=fun k=>k=g
def gave (c:Nat):Ending:=.panicked [{ v:=.iface 282 (.int .i64 (c:Int)),recovered:=false }]
section
variable {w w':World} {g:Nat} {s:ByteArray} {i:Nat}
theorem bF.lt (h:bF w g s i):g<w.heap.size:=(Array.getElem?_eq_some_iff.1 h).1
theorem bF.keep (h:bF w g s i)(hb:Below w.heap.size w w'):bF w' g s i:=(hb.block g h.lt).trans h
theorem bF.drewN (h:bF w g s i)(n:Nat):bF (w.drewN n) g s i:=h
theorem bF.turns {S:Nat->Prop}(h:bF w g s i)(ht:Turns S w w')(hn:¬S g):bF w' g s i:=ht.row h hn
theorem bF.cells (h:bF w g s i):w.cell? ⟨g,0,none⟩=some (.string s)∧w.cell? ⟨g,1,none⟩=some (.int .i64 (i:Int))∧w.frozen? ⟨g,1,none⟩=false :=
 ⟨cell_of_row w _ 0 _ _ _ h,cell_of_row w _ 1 _ _ _ h,frozen_of_row w _ 1 _ _ h⟩
theorem bF.go (h:bF w g s i)(j:Nat)(x:Int)(hx:x=j):bF (w.setCell ⟨g,1,none⟩ (.int .i64 x)) g s j:=by
 subst hx;unfold bF at h ⊢;rw[heap_setCell_same w g 1 _ _ _ h];rfl
end
theorem Turns.go {w:World}{g:Nat}(n:Nat)(v:Value):Turns (only g) w ((w.drewN n).setCell ⟨g,1,none⟩ v) :=
 (Turns.drewN _ w n).trans (Turns.setCell (only g) _ _ _ rfl) (fun _ h _=>h)
theorem kR (s:ByteArray)(i g:Nat)(w:World)(h:bF w g s i):
 Calls prog 248 #[.pointer (some ⟨g,0,none⟩)] w fun e w'=>e=.returned (.bool (decide (i<s.size)))∧∃n,w'=w.drewN n:=by
 obtain⟨c0,c1,f1⟩:=h.cells;clear h;go_enter func248,ntmps248;go_wp2;go_quiet (fail)
 go_wp2;go_ret;exact⟨rfl,nq,rfl⟩
theorem oG (s:ByteArray)(i g:Nat)(c:UInt8)(w:World)(h:bF w g s i)(hs:s.size<=1000000)(hc:s.data.toList[i]? = some c):
 Calls prog 280 #[.pointer (some ⟨g,0,none⟩),.int .u8 (c.toNat:Int)] w fun e w'=>e=.returned (.bool true)∧bF w' g s (i+1)∧Turns (only g) w w':=by
 have hl:s.data.toList.length=s.size:=by rw[Array.length_toList];rfl
 have HM:=H9 (fun q=>kR s i g (w.drewN q) (h.drewN q));have H:=H9 h;obtain⟨c0,c1,f1⟩:=h.cells;clear h;have hlt:i<s.size:=by
  have:=(List.getElem?_eq_some_iff.1 hc).1;rwa[hl] at this
 have t1:decide (i<s.size)=true:=by rw[decide_eq_true_eq];omega
 have hlt':(i:Int)<s.size:=by omega
 have he:s[i]=c:=by
  rw[List.getElem?_eq_getElem (by rw[hl];exact hlt)] at hc;injection hc with hc
 rw[t1] at HM;have t2:((s[i].toNat:Int) != c.toNat)=false:=Jt he;clear hl he hc;go_enter func280,ntmps280;go_wp2;go_quiet ((go_at_call 248;exact Calls.quiet_of (HM.o _)))
 go_wp2;go_ret;exact⟨rfl,(H.o.drewN nq).go (i+1) _ (by omega),Turns.go _ _⟩
theorem Cb (s:ByteArray)(i g:Nat)(c:UInt8)(w:World)(h:bF w g s i)(hc:¬s.data.toList[i]? = some c):
 Calls prog 280 #[.pointer (some ⟨g,0,none⟩),.int .u8 (c.toNat:Int)] w fun e w'=>e=.returned (.bool false)∧bF w' g s i∧Turns (only g) w w':=by
 have hl:s.data.toList.length=s.size:=by rw[Array.length_toList];rfl
 have HM:=H9 (fun q=>kR s i g (w.drewN q) (h.drewN q));have H:=H9 h;obtain⟨c0,c1,f1⟩:=h.cells;clear h;by_cases hlt:i<s.size
 . have t1:decide (i<s.size)=true:=by rw[decide_eq_true_eq];omega
   have hlt':(i:Int)<s.size:=by omega
   have he:s[i]≠c:=by
    intro e;refine hc ?_;rw[List.getElem?_eq_getElem (by rw[hl];exact hlt),<-e];simp[ByteArray.getElem_eq_getElem_data]
   rw[t1] at HM;have t2:((s[i].toNat:Int) != c.toNat)=true:=Js he;clear hl he hc;go_enter func280,ntmps280;go_wp2;go_quiet ((go_at_call 248;exact Calls.quiet_of (HM.o _)))
   go_wp2;go_ret;exact⟨rfl,H.o.drewN nq,Turns.drewN _ _ _⟩
 . have t1:decide (i<s.size)=false:=by rw[decide_eq_false_iff_not];omega
   rw[t1] at HM;clear hl hc;go_enter func280,ntmps280;go_wp2;go_quiet ((go_at_call 248;exact Calls.quiet_of (HM.o _)))
   go_wp2;go_ret;exact⟨rfl,H.o.drewN nq,Turns.drewN _ _ _⟩
theorem oH (s:ByteArray)(i g:Nat)(c:UInt8)(w:World)(h:bF w g s i)(hs:s.size<=1000000)(hc:s.data.toList[i]? = some c):
 Calls prog 249 #[.pointer (some ⟨g,0,none⟩),.int .u8 (c.toNat:Int)] w fun e w'=>e=.returned (.tuple #[])∧bF w' g s (i+1)∧Turns (only g) w w':=by
 have HS:=H9 (oG s i g c w h hs hc);clear hc;go_enter func249,ntmps249;go_wp2_with fail
 refine HS.o.mono ?_;rintro e w1 ⟨rfl,h1,h2⟩;go_wp2;go_end0
 exact⟨rfl,h1,h2⟩
theorem JH (s:ByteArray)(i g:Nat)(c:UInt8)(w:World)(h:bF w g s i)(hc:¬s.data.toList[i]? = some c):
 Calls prog 249 #[.pointer (some ⟨g,0,none⟩),.int .u8 (c.toNat:Int)] w fun e w'=>e=gave 5∧Turns (only g) w w':=by
 have HS:=H9 (Cb s i g c w h hc);clear hc;go_enter func249,ntmps249;go_wp2_with fail
 refine HS.o.mono ?_;rintro e w1 ⟨rfl,h1,h2⟩;go_wp2;exact⟨rfl,rfl,h2⟩
def qh (w:World)(g:Nat):Nat:=match w.cell? ⟨g,1,none⟩ with
 | some (.int _ x)=>x.toNat
 | _=>0
theorem bF.qh {w:World}{g:Nat}{s:ByteArray}{i:Nat}(h:bF w g s i):qh w g=i:=by
 unfold Go.Proofs.YtjmndjmhjleabaaGreatDoor.qh;rw[h.cells.2.1];simp
theorem wM (s:ByteArray)(k:Nat)(h:k<s.size):s.data.toList[k]'(by rw[Array.length_toList];exact h)=s[k]:=by simp[ByteArray.getElem_eq_getElem_data]
theorem Er (c:UInt8):Ch.token (c.toNat:Int)=Pm.tok c:=rfl
theorem AY (c:UInt8)(w:World):
 Calls prog 278 #[.int .u8 (c.toNat:Int)] w fun e w'=>e=.returned (.bool (Pm.blank c))∧w'=w:=by
 by_cases h32:c=32
 . subst h32;go_enter func278,ntmps278;go_wp2;go_ret;exact⟨rfl,rfl⟩
 . have b1:((c.toNat:Int)==32)=false:=gX h32;by_cases h9:c=9
   . subst h9;go_enter func278,ntmps278;go_wp2;go_ret;exact⟨rfl,rfl⟩
   . have b2:((c.toNat:Int)==9)=false:=gX h9;have HB:Hid (Pm.blank c=false):=by unfold Hid Pm.blank;rw[beq_eq_false_iff_ne.2 h32,beq_eq_false_iff_ne.2 h9];rfl
     clear h32 h9;go_enter func278,ntmps278;go_wp2;go_ret;exact⟨bA (by rw[HB.o]),rfl⟩
theorem JI (s:ByteArray)(i g:Nat)(w:World)(h:bF w g s i)(hs:s.size<=1000000)(hi:i<=s.size):
 Calls prog 277 #[.pointer (some ⟨g,0,none⟩),.func (.func 225) #[] #[]] w fun e w' =>
  e=.returned (.string (s.extract i (i+Pm.word s.data.toList i)))∧bF w' g s (i+Pm.word s.data.toList i)∧Turns (only g) w w':=by
 have hl:s.data.toList.length=s.size:=by rw[Array.length_toList];rfl
 have HL:=H9 hl;have H:=H9 h;obtain⟨c0,c1,f1⟩:=h.cells;clear h hl;go_enter func277,ntmps277;go_wp2;go_loopw [] (fun wr=>∃k:Nat,i<=k∧k<=s.size∧bF wr g s k∧Turns (only g) w wr∧i+Pm.word s.data.toList i=k+Pm.word s.data.toList k) (fun wr=>s.size-qh wr g)
 case atStart=>exact⟨i,Nat.le_refl _,hi,H.o,Turns.refl _ _,rfl⟩
 case round =>
  clear H c0 c1 f1;obtain⟨k,hik,hk,h,ht,hw⟩:=hrel;have HM:=H9 (fun q=>kR s k g (wr.drewN q) (h.drewN q));have H:=H9 h;have HT:=H9 ht;have HW:=H9 hw;obtain⟨c0,c1,f1⟩:=h.cells;have HA:=H9 h.qh;clear h ht hw;by_cases hlt:k<s.size
  . have t1:decide (k<s.size)=true:=by rw[decide_eq_true_eq];omega
    have hlt':(k:Int)<s.size:=by omega
    have Xi:Hid (k<s.data.toList.length):=by unfold Hid;rw[HL.o];exact hlt
    have hat:=wM s k hlt;rw[t1] at HM;cases htk:Pm.tok s[k]
    . have HR:Hid (i+Pm.word s.data.toList i=k):=by
       unfold Hid;rw[HW.o];unfold Pm.word;rw[Pm.Dk Xi.o (by rw[hat];exact htk)];rfl
      have HK:=H9 (fun W=>pK (s[k].toNat:Int) W);rw[Er,htk] at HK;clear hat htk HW;have e1:(i:Int)<=k:=by omega
      have e2:(k:Int)<=s.size:=by omega
      go_wp2;go_quiet ((first | (go_at_call 248;exact Calls.quiet_of (HM.o _)) | (go_at_call 225;exact Calls.quiet_of_same (HK.o _))))
      go_wp2;go_quiet (fail)
      go_wp2;go_ret;exact⟨rM (by rw[HR.o]),by rw[HR.o];exact H.o,(HT.o.trans (Turns.drewN (only g) _ _) (fun _ h _=>h)).trans (Turns.drewN (only g) _ _) (fun _ h _=>h)⟩
    . have HR:Hid (i+Pm.word s.data.toList i=(k+1)+Pm.word s.data.toList (k+1)):=by
       unfold Hid;rw[HW.o];unfold Pm.word;rw[Pm.Dj Xi.o (by rw[hat];exact htk)];omega
      have HK:=H9 (fun W=>pK (s[k].toNat:Int) W);rw[Er,htk] at HK;clear hat htk HW;go_wp2;go_quiet ((first | (go_at_call 248;exact Calls.quiet_of (HM.o _)) | (go_at_call 225;exact Calls.quiet_of_same (HK.o _))))
      go_wp2;have HN:=H9 ((H.o.drewN nq).go (k+1) ((k:Int)+1) (by omega));go_roundw
      case rel=>exact⟨k+1,by omega,by omega,HN.o,HT.o.trans (Turns.go _ _) (fun _ h _=>h),HR.o⟩
      case measure=>rw[HN.o.qh,HA.o];omega
  . obtain rfl:k=s.size:=by omega
    have t1:decide (s.size<s.size)=false:=by rw[decide_eq_false_iff_not];omega
    have HR:Hid (i+Pm.word s.data.toList i=s.size):=by
     unfold Hid;rw[HW.o];unfold Pm.word;rw[Pm.run_end _ (by rw[HL.o];exact Nat.le_refl _)];rfl
    rw[t1] at HM;clear HW;have e1:(i:Int)<=s.size:=by omega
    go_wp2;go_quiet ((go_at_call 248;exact Calls.quiet_of (HM.o _)))
    go_wp2;go_quiet (fail)
    go_wp2;go_ret;exact⟨rM (by rw[HR.o]),by rw[HR.o];exact H.o,(HT.o.trans (Turns.drewN (only g) _ _) (fun _ h _=>h)).trans (Turns.drewN (only g) _ _) (fun _ h _=>h)⟩
theorem KV (s:ByteArray)(i g:Nat)(w:World)(h:bF w g s i)(hs:s.size<=1000000)(hi:i<=s.size):
 Calls prog 277 #[.pointer (some ⟨g,0,none⟩),.func (.func 278) #[] #[]] w fun e w' =>
  e=.returned (.string (s.extract i (i+Pm.run Pm.blank s.data.toList i)))∧bF w' g s (i+Pm.run Pm.blank s.data.toList i)∧Turns (only g) w w':=by
 have hl:s.data.toList.length=s.size:=by rw[Array.length_toList];rfl
 have HL:=H9 hl;have H:=H9 h;obtain⟨c0,c1,f1⟩:=h.cells;clear h hl;go_enter func277,ntmps277;go_wp2;go_loopw [] (fun wr=>∃k:Nat,i<=k∧k<=s.size∧bF wr g s k∧Turns (only g) w wr∧i+Pm.run Pm.blank s.data.toList i=k+Pm.run Pm.blank s.data.toList k) (fun wr=>s.size-qh wr g)
 case atStart=>exact⟨i,Nat.le_refl _,hi,H.o,Turns.refl _ _,rfl⟩
 case round =>
  clear H c0 c1 f1;obtain⟨k,hik,hk,h,ht,hw⟩:=hrel;have HM:=H9 (fun q=>kR s k g (wr.drewN q) (h.drewN q));have H:=H9 h;have HT:=H9 ht;have HW:=H9 hw;obtain⟨c0,c1,f1⟩:=h.cells;have HA:=H9 h.qh;clear h ht hw;by_cases hlt:k<s.size
  . have t1:decide (k<s.size)=true:=by rw[decide_eq_true_eq];omega
    have hlt':(k:Int)<s.size:=by omega
    have Xi:Hid (k<s.data.toList.length):=by unfold Hid;rw[HL.o];exact hlt
    have hat:=wM s k hlt;rw[t1] at HM;cases htk:Pm.blank s[k]
    . have HR:Hid (i+Pm.run Pm.blank s.data.toList i=k):=by
       unfold Hid;rw[HW.o];rw[Pm.Dk Xi.o (by rw[hat];exact htk)];rfl
      have HK:=H9 (fun W=>AY s[k] W);rw[htk] at HK;clear hat htk HW;have e1:(i:Int)<=k:=by omega
      have e2:(k:Int)<=s.size:=by omega
      go_wp2;go_quiet ((first | (go_at_call 248;exact Calls.quiet_of (HM.o _)) | (go_at_call 278;exact Calls.quiet_of_same (HK.o _))))
      go_wp2;go_quiet (fail)
      go_wp2;go_ret;exact⟨rM (by rw[HR.o]),by rw[HR.o];exact H.o,(HT.o.trans (Turns.drewN (only g) _ _) (fun _ h _=>h)).trans (Turns.drewN (only g) _ _) (fun _ h _=>h)⟩
    . have HR:Hid (i+Pm.run Pm.blank s.data.toList i=(k+1)+Pm.run Pm.blank s.data.toList (k+1)):=by
       unfold Hid;rw[HW.o];rw[Pm.Dj Xi.o (by rw[hat];exact htk)];omega
      have HK:=H9 (fun W=>AY s[k] W);rw[htk] at HK;clear hat htk HW;go_wp2;go_quiet ((first | (go_at_call 248;exact Calls.quiet_of (HM.o _)) | (go_at_call 278;exact Calls.quiet_of_same (HK.o _))))
      go_wp2;have HN:=H9 ((H.o.drewN nq).go (k+1) ((k:Int)+1) (by omega));go_roundw
      case rel=>exact⟨k+1,by omega,by omega,HN.o,HT.o.trans (Turns.go _ _) (fun _ h _=>h),HR.o⟩
      case measure=>rw[HN.o.qh,HA.o];omega
  . obtain rfl:k=s.size:=by omega
    have t1:decide (s.size<s.size)=false:=by rw[decide_eq_false_iff_not];omega
    have HR:Hid (i+Pm.run Pm.blank s.data.toList i=s.size):=by
     unfold Hid;rw[HW.o];rw[Pm.run_end _ (by rw[HL.o];exact Nat.le_refl _)];rfl
    rw[t1] at HM;clear HW;have e1:(i:Int)<=s.size:=by omega
    go_wp2;go_quiet ((go_at_call 248;exact Calls.quiet_of (HM.o _)))
    go_wp2;go_quiet (fail)
    go_wp2;go_ret;exact⟨rM (by rw[HR.o]),by rw[HR.o];exact H.o,(HT.o.trans (Turns.drewN (only g) _ _) (fun _ h _=>h)).trans (Turns.drewN (only g) _ _) (fun _ h _=>h)⟩
theorem lJ (s:ByteArray)(i g:Nat)(w:World)(h:bF w g s i)(hs:s.size<=1000000)(hi:i<=s.size):
 Calls prog 246 #[.pointer (some ⟨g,0,none⟩)] w fun e w'=>e=.returned (.tuple #[])∧bF w' g s (Pm.blanks s.data.toList i)∧Turns (only g) w w':=by
 have HR:=H9 (KV s i g w h hs hi);go_enter func246,ntmps246;go_wp2_with fail
 refine HR.o.mono ?_;rintro e w1 ⟨rfl,h1,h2⟩;go_wp2;go_end0
 exact⟨rfl,h1,h2⟩
theorem pR (s:ByteArray)(i g:Nat)(w:World)(h:bF w g s i)(hs:s.size<=1000000)(hi:i<=s.size)(hn:Pm.word s.data.toList i≠0):
 Calls prog 279 #[.pointer (some ⟨g,0,none⟩)] w fun e w'=>e=.returned (.string (s.extract i (i+Pm.word s.data.toList i)))∧bF w' g s (i+Pm.word s.data.toList i)∧Turns (only g) w w':=by
 have HR:=H9 (JI s i g w h hs hi);have hw:=Pm.rA s.data.toList i (by rw[Array.length_toList];exact hi);rw[Array.length_toList] at hw;have hw':i+Pm.word s.data.toList i<=s.size:=hw;have hne:=Ch.gW (s.extract i (i+Pm.word s.data.toList i)) (by simp;omega);have hne2:((s.extract i (i+Pm.word s.data.toList i)).toList==[])=false:=by
  cases hx:(s.extract i (i+Pm.word s.data.toList i)).toList with
  | nil=>rw[hx] at hne;cases hne
  | cons _ _=>rfl
 clear hw hw' hn;generalize Pm.word s.data.toList i=n at *;generalize s.extract i (i+n)=x at *;go_enter func279,ntmps279;go_wp2_with fail
 refine HR.o.mono ?_;rintro e w1 ⟨rfl,h1,h2⟩;go_wp2;go_ret;exact⟨rfl,h1,h2⟩
theorem sF (s:ByteArray)(i g:Nat)(w:World)(h:bF w g s i)(hs:s.size<=1000000)(hi:i<=s.size)(hn:Pm.word s.data.toList i=0):
 Calls prog 279 #[.pointer (some ⟨g,0,none⟩)] w fun e w'=>e=gave 5∧Turns (only g) w w':=by
 have HR:=H9 (JI s i g w h hs hi);have hx:s.extract i (i+Pm.word s.data.toList i)=⟨#[]⟩:=Ch.empty_eq _ (by rw[hn];simp);rw[hx] at HR;clear hx hn;go_enter func279,ntmps279;go_wp2_with fail
 refine HR.o.mono ?_;rintro e w1 ⟨rfl,h1,h2⟩;go_wp2;exact⟨rfl,rfl,h2⟩
theorem AZ (s:ByteArray)(i g:Nat)(w:World)(h:bF w g s i)(hs:s.size<=1000000)(hi:i<s.size):
 Calls prog 299 #[.pointer (some ⟨g,0,none⟩)] w fun e w'=>e=.returned (.int .u8 (s[i].toNat:Int))∧bF w' g s (i+1)∧Turns (only g) w w':=by
 have HM:=H9 (kR s i g w h);have t1:decide (i<s.size)=true:=by rw[decide_eq_true_eq];omega
 rw[t1] at HM;have H:=H9 h;clear h t1;go_enter func299,ntmps299;go_wp2_with fail
 refine HM.o.mono ?_;rintro e w1 ⟨rfl,n,hw⟩;have H1:Hid (bF w1 g s i):=by rw[hw];exact H.o.drewN n
 have T1:Hid (Turns (only g) w w1):=by rw[hw];exact Turns.drewN _ _ _
 clear hw H HM;obtain⟨c0,c1,f1⟩:=H1.o.cells;have H2:=H9 (H1.o.go (i+1) ((i:Int)+1) (by omega));have T2:Hid (Turns (only g) w (w1.setCell ⟨g,1,none⟩ (.int .i64 ((i:Int)+1)))):=T1.out.trans (Turns.setCell (only g) _ _ _ rfl) (fun _ h _=>h);have d0:(w1.setCell ⟨g,1,none⟩ (.int .i64 ((i:Int)+1))).cell? ⟨g,0,none⟩=some (.string s):=H2.o.cells.1;have e1:(i:Int)+1-1=i:=by omega
 have e2:(i:Int)<s.size:=by omega
 go_wp2;go_quiet (fail)
 go_wp2;go_ret;exact⟨rfl,H2.o.drewN nq,T2.out.trans (Turns.drewN (only g) _ _) (fun _ h _=>h)⟩
theorem Es (s:ByteArray)(i g:Nat)(w:World)(h:bF w g s i)(hi:¬i<s.size):
 Calls prog 299 #[.pointer (some ⟨g,0,none⟩)] w fun e w'=>e=gave 14∧Turns (only g) w w':=by
 have HM:=H9 (kR s i g w h);have t1:decide (i<s.size)=false:=by rw[decide_eq_false_iff_not];omega
 rw[t1] at HM;clear h t1 hi;go_enter func299,ntmps299;go_wp2_with fail
 refine HM.o.mono ?_;rintro e w1 ⟨rfl,n,hw⟩;have T1:Hid (Turns (only g) w w1):=by rw[hw];exact Turns.drewN _ _ _
 clear hw;go_wp2;exact⟨rfl,rfl,T1.out⟩
def oI (m:Option (List UInt8×List UInt8))(w:World)(g:Nat)(s:ByteArray)(e:Ending)(w':World):Prop :=
 Turns (only g) w w'∧match m with
  | none=>e=gave 14
  | some x=>e=.returned (.string ⟨x.1.toArray⟩)∧∃j,j<=s.size∧bF w' g s j∧s.data.toList.drop j=x.2
theorem oI.no {m:Option (List UInt8×List UInt8)}{w:World}{g:Nat}{s:ByteArray}{w':World}(hm:m=none)(ht:Turns (only g) w w'):oI m w g s (gave 14) w':=by
 subst hm;exact⟨ht,rfl⟩
theorem oI.yes {m:Option (List UInt8×List UInt8)}{w:World}{g:Nat}{s:ByteArray}{v r:List UInt8}{e:Ending}{w':World}{j:Nat}(hm:m=some (v,r))(he:e=.returned (.string ⟨v.toArray⟩))(hj:j<=s.size)(hr:bF w' g s j)(hd:s.data.toList.drop j=r)(ht:Turns (only g) w w'):oI m w g s e w':=by
 subst hm;exact⟨ht,he,j,hj,hr,hd⟩
structure yE (w:World)(g:Nat)(s:ByteArray)(k:Nat)(acc:List UInt8)(ao:Option Addr)(cap:Nat)(wr:World):Prop where
 rd:bF wr g s k
 own:aT wr w.heap.size 5 ao cap acc
 turns:Turns (only g) w wr
 lt:g<w.heap.size
section
variable {w wr w1 w3:World} {g k k':Nat} {s:ByteArray} {acc acc':List UInt8} {ao aD:Option Addr} {cap cap':Nat}
theorem yE.feed (h:yE w g s k acc ao cap wr)(h1:bF w1 g s k')(h2:Turns (only g) wr w1):yE w g s k' acc ao cap w1 :=
 ⟨h1,h.own.turns h2 (fun a e e2=>by have:=(h.own.block a e).1;have:=h.lt;unfold only at e2;omega),h.turns.trans h2 (fun _ h _=>h),h.lt⟩
theorem yE.push (h:yE w g s k acc ao cap wr)(ob:Obj)(hO:aT w3 w.heap.size 5 aD cap' acc')(hG:(wr.alloc ob).grownBy w3 (au ao)):yE w g s k acc' aD cap' w3:=by
 have hS:∀i,au ao=some i->w.heap.size<=i:=by
  intro i e;cases ao with
  | none=>simp[au] at e
  | some a=>simp only[au,Option.some.injEq] at e;have:=(h.own.block a rfl).1;omega
 have hT:Turns (fun i=>w.heap.size<=i) wr w3:=(Turns.bI (World.grownBy_alloc wr ob none) (fun k e=>by cases e)).trans (Turns.bI hG hS) (fun _ h _=>h);exact⟨h.rd.turns hT (by have:=h.lt;omega),hO,h.turns.trans hT (fun i hi hlt=>by omega),h.lt⟩
end
theorem aU.JJ (W:World)(c:UInt8)(t:Nat)(fr:Nat×Nat){k:Nat}(hk:W.heap.size=k):aU (W.alloc (.cells #[.int .u8 (c.toNat:Int)] t fr)) (Option.some ⟨k,0,Option.none⟩) 1 [c]:=hk▸aU.one W c t fr
theorem GA (s:ByteArray)(i g:Nat)(w:World)(h:bF w g s i)(hs:s.size<=1000000)(hi:i<=s.size):
 Calls prog 281 #[.pointer (some ⟨g,0,none⟩)] w fun e w'=>oI (Pm.quo [] (s.data.toList.drop i)) w g s e w':=by
 have hl:s.data.toList.length=s.size:=by rw[Array.length_toList];rfl
 have HL:=H9 hl;have H:=H9 h;obtain⟨i0,hi0,hz0,hz1,hz2⟩:=info_parts dQ;have Hi:=H9 hi0;have gQ:=H9 hz0;have gK:=H9 hz1;have gT:=H9 hz2
 clear h hl hi0 hz0 hz1 hz2;go_enter func281,ntmps281;go_wp2;go_loopw [3] (fun t wr=>∃(k:Nat) (acc:List UInt8) (ao:Option Addr) (cap:Nat),k<=s.size∧acc.length<=k∧t=.slice ao acc.length cap∧yE w g s k acc ao cap wr∧Pm.quo [] (s.data.toList.drop i)=Pm.quo acc (s.data.toList.drop k)) (fun _ wr=>s.size-qh wr g)
 case atStart=>exact⟨i,[],none,0,hi,Nat.zero_le _,rfl,⟨H.o,aT.nil _ _ _,Turns.refl _ _,H.o.lt⟩,rfl⟩
 case round =>
  clear H;obtain⟨k,acc,ao,cap,hk,hal,rfl,hA,hq⟩:=hrel;have HA:=H9 hA;have UO:=H9 hA.rd.qh;have HQ:=H9 hq;clear hA hq;by_cases hlt:k<s.size
  . have HD:Hid (s.data.toList.drop k=s[k]::s.data.toList.drop (k+1)):=by
     unfold Hid;rw[List.drop_eq_getElem_cons (by rw[HL.o];exact hlt),wM s k hlt]
    go_wp2_with fail
    refine(AZ s k g _ HA.o.rd hs hlt).mono ?_;rintro e w1 ⟨rfl,h1,h2⟩;have HA1:=H9 (HA.o.feed h1 h2);clear h1 h2 HA;generalize s[k]=c at *;by_cases zH:c=34
    . subst zH;have HR:Hid (Pm.quo [] (s.data.toList.drop i)=some (acc,s.data.toList.drop (k+1))):=by unfold Hid;rw[HQ.o,HD.o,Pm.Jg]
      have oD:=HA1.o.own.qc.str (P:=prog) 31 9 5 underlying31 underlying5 underlying9;clear HQ HD;go_wp2;go_ret;exact oI.yes HR.o rfl (by omega) HA1.o.rd rfl HA1.o.turns
    . have t34:((c.toNat:Int)==34)=false:=gX zH;by_cases YU:c=92
      . subst YU;clear t34 zH;by_cases hlt2:k+1<s.size
        . have HD2:Hid (s.data.toList.drop (k+1)=s[k+1]::s.data.toList.drop (k+2)):=by
           unfold Hid;rw[List.drop_eq_getElem_cons (by rw[HL.o];exact hlt2),wM s (k+1) hlt2]
          have HR:Hid (Pm.quo [] (s.data.toList.drop i)=Pm.quo (acc++[s[k+1]]) (s.data.toList.drop (k+2))):=by
           unfold Hid;rw[HQ.o,HD.o,HD2.o,Pm.Dm]
          clear HQ HD HD2;go_wp2_with fail
          refine(AZ s (k+1) g _ HA1.o.rd hs hlt2).mono ?_;rintro e w2 ⟨rfl,h1,h2⟩;have HA2:=H9 (HA1.o.feed h1 h2);clear h1 h2 HA1;generalize s[k+1]=d at *;go_wp2_with (at_builtin;refine dF rfl (.tmp 15) (.tmp 17) 31 rfl w.heap.size 5 i0 underlying31 Hi.o gQ.o gK.o gT.o (l:=acc) (l2:=[d]) rfl rfl (HA2.o.own.alloc _) rfl rfl (aU.JJ _ _ _ _ (by simp)) (by simp;omega) (by have:=HA2.o.turns.size;simp;omega) ?_;intro fu aI w3 hO3 hG3 dJ;have BN:=H9 (HA2.o.push _ hO3 hG3);clear hO3 hG3 dJ)
          go_roundw
          case rel=>exact⟨k+2,acc++[d],fu,aI,by omega,by rw[List.length_append];simp;omega,by rw[List.length_append];rfl,BN.o,HR.o⟩
          case measure=>rw[BN.o.rd.qh,UO.o];omega
        . have HR:Hid (Pm.quo [] (s.data.toList.drop i)=none):=by
           unfold Hid;rw[HQ.o,HD.o,List.drop_eq_nil_of_le (show s.data.toList.length<=k+1 by rw[HL.o];omega),Pm.rz]
          clear HQ HD;go_wp2_with fail
          refine(Es s (k+1) g _ HA1.o.rd hlt2).mono ?_;rintro e w2 ⟨he,h2⟩;unfold gave at he;subst he;have HT:=H9 (HA1.o.turns.trans h2 (fun _ h _=>h));clear h2;go_wp2;exact⟨rfl,oI.no HR.o HT.o⟩
      . have t92:((c.toNat:Int)==92)=false:=gX YU;have HR:Hid (Pm.quo [] (s.data.toList.drop i)=Pm.quo (acc++[c]) (s.data.toList.drop (k+1))):=by
         unfold Hid;rw[HQ.o,HD.o,Pm.Dn _ _ _ zH YU]
        clear HQ HD zH YU;go_wp2_with (at_builtin;refine dF rfl (.tmp 15) (.tmp 17) 31 rfl w.heap.size 5 i0 underlying31 Hi.o gQ.o gK.o gT.o (l:=acc) (l2:=[c]) rfl rfl (HA1.o.own.alloc _) rfl rfl (aU.JJ _ _ _ _ (by simp)) (by simp;omega) (by have:=HA1.o.turns.size;simp;omega) ?_;intro fu aI w3 hO3 hG3 dJ;have BN:=H9 (HA1.o.push _ hO3 hG3);clear hO3 hG3 dJ)
        go_roundw
        case rel=>exact⟨k+1,acc++[c],fu,aI,by omega,by rw[List.length_append];simp;omega,by rw[List.length_append];rfl,BN.o,HR.o⟩
        case measure=>rw[BN.o.rd.qh,UO.o];omega
  . have HR:Hid (Pm.quo [] (s.data.toList.drop i)=none):=by
     unfold Hid;rw[HQ.o,List.drop_eq_nil_of_le (show s.data.toList.length<=k by rw[HL.o];omega),Pm.BF]
    clear HQ;go_wp2_with fail
    refine(Es s k g _ HA.o.rd hlt).mono ?_;rintro e w2 ⟨he,h2⟩;unfold gave at he;subst he;have HT:=H9 (HA.o.turns.trans h2 (fun _ h _=>h));clear h2;go_wp2;exact⟨rfl,oI.no HR.o HT.o⟩
structure dw (w:World)(S:Nat->Prop)(g:Nat)(ao:Option Addr)(cap:Nat)(bo:Option Addr)(bc:Nat)(t:Fm.Td):Prop where
 row:w.heap[g]? = some (.cells #[.slice ao t.es.length cap,.slice bo t.bs.length bc] 268 (0,0))
 all:jy w (fun k=>(S k∧k≠g)∧au bo≠some k) 72 ao cap t.es
 own:aT w 0 5 bo bc t.bs
 mem:∀a,bo=some a->S a.block∧a.block≠g
 me:S g
section
variable {w w':World} {S S':Nat->Prop} {g:Nat} {ao bo:Option Addr} {cap bc:Nat} {t:Fm.Td}
theorem dw.lt (h:dw w S g ao cap bo bc t):g<w.heap.size:=(Array.getElem?_eq_some_iff.1 h.row).1
theorem dw.c0 (h:dw w S g ao cap bo bc t):w.cell? ⟨g,0,none⟩=some (.slice ao t.es.length cap):=cell_of_row w g 0 _ _ _ h.row
theorem dw.c1 (h:dw w S g ao cap bo bc t):w.cell? ⟨g,1,none⟩=some (.slice bo t.bs.length bc):=cell_of_row w g 1 _ _ _ h.row
theorem dw.turns (h:dw w S g ao cap bo bc t)(ht:Turns S' w w')(hs:∀k,S k->¬S' k):dw w' S g ao cap bo bc t :=
 ⟨ht.row h.row (hs g h.me),h.all.turns ht (fun k e=>hs k e.1.1),h.own.turns ht (fun a e=>hs _ (h.mem a e).1),h.mem,h.me⟩
theorem dw.mono (h:dw w S g ao cap bo bc t)(hs:∀k,k<w.heap.size->S k->S' k):dw w S' g ao cap bo bc t :=
 ⟨h.row,h.all.mono (fun k hk e=>⟨⟨hs k hk e.1.1,e.1.2⟩,e.2⟩),h.own,fun a e=>⟨hs _ (h.own.block a e).2 (h.mem a e).1,(h.mem a e).2⟩,hs g h.lt h.me⟩
theorem dw.stay (h:dw w S g ao cap bo bc t)(hb:Below w.heap.size w w'):dw w' S g ao cap bo bc t:=h.turns (Turns.of_below (S:=fun _=>False) hb) (fun _ _ e=>e)
end
theorem dw.made (w:World):dw (w.alloc (.cells #[.slice none 0 0,.slice none 0 0] 268)) (fun k=>w.heap.size<=k) w.heap.size none 0 none 0 Fm.zJ :=
 ⟨heap_alloc_new w _,jy.nil _ _ _,aT.nil _ _ _,fun a e=>(by cases e),Nat.le_refl _⟩
def gP (w:World)(S:Nat->Prop)(g:Nat)(t:Fm.Td):Prop:=∃ao cap bo bc,dw w S g ao cap bo bc t
section
variable {w w':World} {S S':Nat->Prop} {g:Nat} {t:Fm.Td}
theorem gP.turns (h:gP w S g t)(ht:Turns S' w w')(hs:∀k,S k->¬S' k):gP w' S g t:=by obtain⟨a,b,c,d,h⟩:=h;exact⟨a,b,c,d,h.turns ht hs⟩
theorem gP.mono (h:gP w S g t)(hs:∀k,k<w.heap.size->S k->S' k):gP w S' g t:=by obtain⟨a,b,c,d,h⟩:=h;exact⟨a,b,c,d,h.mono hs⟩
theorem gP.stay (h:gP w S g t)(hb:Below w.heap.size w w'):gP w' S g t:=by obtain⟨a,b,c,d,h⟩:=h;exact⟨a,b,c,d,h.stay hb⟩
end
theorem jy.push {W:World}{S:Nat->Prop}{tE:Nat}{ao:Option Addr}{cap:Nat}{es:List aZ}(h:jy W S tE ao cap es)(ob:Obj):∃ps:List (aZ×EvS),aC (W.alloc ob) 0 tE 12 ao cap es.length (bJ ps) ∧
 ∀aD cap' w' (e:aZ) s (N:Nat->Prop) ys,e.cells s=ys->vS W N e s->s.po=none∧s.bS=0->(∀k,S k->¬N k)->aC w' 0 tE 12 aD cap' (es.length+1) (bJ ps++ys)->(W.alloc ob).grownBy w' (au ao)->(au aD=au ao∨au aD=some (W.alloc ob).heap.size)->jy w' (fun k=>S k∨N k∨W.heap.size<=k) tE aD cap' (es++[e])∧Turns S W w':=by
 obtain⟨ps,hes,hO,hm,hI,hX⟩:=h;have hb:Below W.heap.size W (W.alloc ob):=(Below.refl _ _).alloc (Nat.le_refl _) _;have ht:=Turns.of_below (S:=fun _=>False) hb;refine⟨ps,hO.stay hb,fun aD cap' w' e s N ys hy hE hpn hN xY hG hat=>?_⟩;subst hy;have e1:bJ [(e,s)]=e.cells s:=by simp[bJ]
 rw[<-e1] at xY;have:=jy.more (N:=N) hm (fun p hp=>(hI p hp).turns ht (fun _ _ e=>e)) (ps2:=[(e,s)]) (fun p hp=>by rw[List.mem_singleton.1 hp];exact hE.turns ht (fun _ _ e=>e)) hN xY (by rw[<-hes,List.length_map];rfl) hG hat hX (fun p hp=>by rw[List.mem_singleton.1 hp];exact hpn);refine⟨?_,?_⟩
 . rw[hes] at this;refine this.mono (fun k hk e=>?_);rcases e with e | e | e
   . exact Or.inl e
   . exact Or.inr (Or.inl e)
   . rw[World.size_alloc] at e;exact Or.inr (Or.inr (by omega))
 . refine(Turns.of_below (S:=S) hb).trans (Turns.bI (S:=S) hG (fun k e=>?_)) (fun _ e _=>e);cases ao with
   | none=>cases e
   | some a=>injection e with e;subst e;exact hm a rfl
theorem CG:(prog.info? 72).map (fun i=>(i.zero,i.size,i.bytes))=some (some (.agg #[.int .i64 0,.string ⟨#[]⟩,.string ⟨#[]⟩,.int .i64 0,.slice none 0 0,.int .i64 0,.slice none 0 0,.string ⟨#[]⟩,.string ⟨#[]⟩,.string ⟨#[]⟩,.slice none 0 0,.int .i64 0]),12,184):=by kernel_rfl
structure CJ (w:World)(S N:Nat->Prop)(e:aZ)(s:EvS):Prop where
 fields:iJ w (fun k=>N k∧lastB e s≠some k) s.fo s.ak e.fields.length (aB e.fields)
 aH:eX w (fun k=>N k∧lastB e s≠some k) s.po s.bS e.aH
 bytes:aF w N 5 s.bo s.aj e.bytes
 apart:∀k,S k->¬N k
theorem CJ.stay {w w':World}{S N:Nat->Prop}{e:aZ}{s:EvS}(h:CJ w S N e s)(hb:Below w.heap.size w w'):CJ w' S N e s :=
 have ht:=Turns.of_below (S:=fun _=>False) hb
 ⟨h.fields.turns ht (fun _ _ k=>k),h.aH.turns ht (fun _ _ k=>k),h.bytes.turns ht (fun _ _ k=>k),h.apart⟩
inductive nJ (w:World)(S N:Nat->Prop)(es:List aZ)(e:aZ)(v:Ending)(w':World):Prop
 | mk (ao:Option Addr) (cap:Nat) (hv:v=.returned (.slice ao (es.length+1) cap)) (hO:dh w' (fun k=>S k∨N k∨w.heap.size<=k) 72 5 ao cap (es++[e])) (hT:Turns S w w')
structure J5 (w:World)(S N:Nat->Prop)(ao:Option Addr)(ps:List (aZ×EvS))(es:List aZ)(e:aZ)(s:EvS):Prop where
 es:ps.map (·.1)=es
 mem:∀a,ao=some a->S a.block
 ins:∀p∈ps,vS w (fun k=>S k∧au ao≠some k) p.1 p.2
 new:CJ w S N e s
theorem nJ.of {w w3:World}{S N:Nat->Prop}{ao fu:Option Addr}{aI n:Nat}{ps:List (aZ×EvS)}{es:List aZ}{e:aZ}{s:EvS}{x y:Obj}
 (h:J5 w S N ao ps es e s) (hO:aC w3 0 72 12 fu aI (n+1) (bJ ps++e.cells s)) (hG:((w.alloc x).alloc y).grownBy w3 (au ao)) (hat:au fu=au ao∨au fu=some ((w.alloc x).alloc y).heap.size) (hn:n=es.length:=by rfl) :
 nJ w S N es e (.returned (.slice fu (n+1) aI)) w3:=by
 subst hn;have hB:Below w.heap.size w ((w.alloc x).alloc y):=((Below.refl _ _).alloc (Nat.le_refl _) _).alloc (by simp) _;have hT:=Turns.of_below (S:=fun _=>False) hB;have hl:es.length=ps.length:=by rw[<-h.es];simp
 have hin:∀p∈ps,vS ((w.alloc x).alloc y) (fun k=>S k∧au ao≠some k) p.1 p.2:=fun p hp=>(h.ins p hp).turns hT (fun _ _ k=>k);have hnew:=h.new.stay hB;have xY:aC w3 0 72 12 fu aI (ps.length+1) (bJ (ps++[(e,s)])):=by
  rw[iL,<-hl];have e1:bJ [(e,s)]=e.cells s:=by simp[bJ]
  rw[e1];exact hO
 have hM:=dh.more (tb:=5) h.mem hin hnew.fields hnew.aH hnew.bytes hnew.apart xY rfl hG hat;refine .mk fu aI rfl ?_ ?_
 . rw[<-h.es];refine hM.mono (fun k _ hk=>?_);rcases hk with hk | hk | hk
   . exact Or.inl hk
   . exact Or.inr (Or.inl hk)
   . refine Or.inr (Or.inr ?_);rw[hk];exact hB.size
 . refine(Turns.of_below (S:=S) hB).trans (Turns.bI (S:=S) hG (fun k hk=>?_)) (fun _ k _=>k);cases ao with
   | none=>cases hk
   | some a=>injection hk with hk;subst hk;exact h.mem a rfl
theorem Mt (w:World)(S N:Nat->Prop)(ao:Option Addr)(cap:Nat)(es:List aZ)(e:aZ)(s:EvS)(h:dh w S 72 5 ao cap es)(hE:CJ w S N e s)(hl:es.length<=1000000)(hk:e.kind≠2):
 Calls prog 105 #[.slice ao es.length cap,.agg #[.int .i64 e.kind,.string e.method,.string e.target,.int .i64 e.minor,.slice s.fo e.fields.length s.ak,.int .i64 e.length,.slice s.bo e.bytes.length s.aj,.string e.dX,.string e.dO,.string e.ptype,.slice s.po e.aH.length s.bS,.int .i64 e.code]] w fun v w'=>nJ w S N es e v w':=by
 have k2:(e.kind==2)=false:=beq_eq_false_iff_ne.2 hk;obtain⟨ps,hes,hO,hA,hI⟩:=h.own;have HP:Hid (J5 w S N ao ps es e s):=⟨hes,hA,hI,hE⟩;have HO:=H9 hO;obtain⟨i0,hi0,hz0,hz1,hz2⟩:=info_parts CG;have Hi:=H9 hi0;have gQ:=H9 hz0;have gK:=H9 hz1;have gT:=H9 hz2
 clear hi0 hz0 hz1 hz2 h hE hes hO hA hI hk;go_enter func105,ntmps105;go_wp2_with (at_builtin;go_loud (refine aK rfl (.tmp 37) (.tmp 39) 58 rfl 0 72 i0 (.agg #[.int .i64 0,.string ⟨#[]⟩,.string ⟨#[]⟩,.int .i64 0,.slice none 0 0,.int .i64 0,.slice none 0 0,.string ⟨#[]⟩,.string ⟨#[]⟩,.string ⟨#[]⟩,.slice none 0 0,.int .i64 0]) 12 184 underlying58 Hi.o gQ.o gK.o gT.o rfl (by decide) rfl ((HO.o.alloc _).alloc _) rfl (aZ.made e s _ _ _ (by simp)) rfl (cells_one e s) (by omega) (by omega) (Nat.zero_le _) ?_;intro fu aI w3 hO3 hG3 dJ))
 go_ret;exact nJ.of HP.o hO3 hG3 dJ
theorem Mv (w:World)(S N:Nat->Prop)(e:aZ)(s:EvS)(hE:CJ w S N e s)(hk:e.kind=2):
 Calls prog 105 #[.slice none 0 0,.agg #[.int .i64 e.kind,.string e.method,.string e.target,.int .i64 e.minor,.slice s.fo e.fields.length s.ak,.int .i64 e.length,.slice s.bo e.bytes.length s.aj,.string e.dX,.string e.dO,.string e.ptype,.slice s.po e.aH.length s.bS,.int .i64 e.code]] w fun v w'=>nJ w S N [] e v w':=by
 have k2:(e.kind==2)=true:=beq_iff_eq.2 hk;have HP:Hid (J5 w S N none [] [] e s):=⟨rfl,(fun a k=>by cases k),(fun p hp=>by cases hp),hE⟩;have HO:=H9 (aC.nil w 0 72 12);obtain⟨i0,hi0,hz0,hz1,hz2⟩:=info_parts CG;have Hi:=H9 hi0;have gQ:=H9 hz0;have gK:=H9 hz1;have gT:=H9 hz2
 clear hi0 hz0 hz1 hz2 hE hk;go_enter func105,ntmps105;go_wp2_with (at_builtin;go_loud (refine aK rfl (.tmp 37) (.tmp 39) 58 rfl 0 72 i0 (.agg #[.int .i64 0,.string ⟨#[]⟩,.string ⟨#[]⟩,.int .i64 0,.slice none 0 0,.int .i64 0,.slice none 0 0,.string ⟨#[]⟩,.string ⟨#[]⟩,.string ⟨#[]⟩,.slice none 0 0,.int .i64 0]) 12 184 underlying58 Hi.o gQ.o gK.o gT.o rfl (by decide) rfl ((HO.o.alloc _).alloc _) rfl (aZ.made e s _ _ _ (by simp)) rfl (cells_one e s) (by omega) (by omega) (Nat.zero_le _) ?_;intro fu aI w3 hO3 hG3 dJ))
 go_ret;exact nJ.of (n:=0) HP.o hO3 hG3 dJ
theorem IC (w:World)(S N:Nat->Prop)(ao:Option Addr)(cap m:Nat)(es:List aZ)(e:aZ)(s:EvS)(h:dh w S 72 5 ao cap es)(hE:CJ w S N e s)(hm:es.length=m+1)(hl:m<=1000000)(hk:e.kind=2)(hx:∀x,es.getLast? = some x->x.kind≠2):
 Calls prog 105 #[.slice ao (m+1) cap,.agg #[.int .i64 e.kind,.string e.method,.string e.target,.int .i64 e.minor,.slice s.fo e.fields.length s.ak,.int .i64 e.length,.slice s.bo e.bytes.length s.aj,.string e.dX,.string e.dO,.string e.ptype,.slice s.po e.aH.length s.bS,.int .i64 e.code]] w fun v w'=>nJ w S N es e v w':=by
 have k2:(e.kind==2)=true:=beq_iff_eq.2 hk;obtain⟨ps,hes,hO,hA,hI⟩:=h.own;have hlen:ps.length=m+1:=by rw[<-hm,<-hes];simp
 have hv:=hO.lQ;obtain⟨b,o,hao,hc⟩:=hv.lit (by rw[iK];omega);have hcell:w.cell? ⟨b,o+m*12,none⟩=some (.int .i64 ps[m].1.kind):=hc (m*12) _ (by
  have:=lZ ps m (by omega) 0 (by omega);rw[Nat.add_zero] at this;rw[this];rfl)
 have hkx:ps[m].1.kind≠2:=hx _ (by
  have hq:ps[ps.length-1]? = some ps[m]:=by rw[show ps.length-1=m by omega,List.getElem?_eq_getElem (by omega)]
  rw[<-hes,List.getLast?_map,List.getLast?_eq_getElem?,hq];rfl)
 generalize ps[m].1.kind=kx at hcell hkx;have kx2:(kx==2)=false:=beq_eq_false_iff_ne.2 hkx;have c0:(w.alloc (.cells #[.int .i64 e.kind,.string e.method,.string e.target,.int .i64 e.minor,.slice s.fo e.fields.length s.ak,.int .i64 e.length,.slice s.bo e.bytes.length s.aj,.string e.dX,.string e.dO,.string e.ptype,.slice s.po e.aH.length s.bS,.int .i64 e.code] 72)).cell? ⟨b,o+m*12,none⟩=some (.int .i64 kx):=((Below.refl _ w).alloc (Nat.le_refl _) _).cell (World.block_lt_of_cell? w _ hcell)▸hcell;have hcap:m+1<=cap:=by have:=hv.1;rwa[hm] at this
 rw[hm] at hO;subst hao;have HP:Hid (J5 w S N (some ⟨b,o,none⟩) ps es e s):=⟨hes,hA,hI,hE⟩;have HO:=H9 hO;have HM:=H9 hm
 obtain⟨i0,hi0,hz0,hz1,hz2⟩:=info_parts CG;have Hi:=H9 hi0;have gQ:=H9 hz0;have gK:=H9 hz1;have gT:=H9 hz2
 clear hi0 hz0 hz1 hz2 h hE hes hO hA hI hk hv hc hcell hkx hx hm hlen;go_enter func105,ntmps105;go_wp2_with (at_builtin;go_loud (refine aK rfl (.tmp 37) (.tmp 39) 58 rfl 0 72 i0 (.agg #[.int .i64 0,.string ⟨#[]⟩,.string ⟨#[]⟩,.int .i64 0,.slice none 0 0,.int .i64 0,.slice none 0 0,.string ⟨#[]⟩,.string ⟨#[]⟩,.string ⟨#[]⟩,.slice none 0 0,.int .i64 0]) 12 184 underlying58 Hi.o gQ.o gK.o gT.o rfl (by decide) rfl ((HO.o.alloc _).alloc _) rfl (aZ.made e s _ _ _ (by simp)) rfl (cells_one e s) (by omega) (by omega) (Nat.zero_le _) ?_;intro fu aI w3 hO3 hG3 dJ))
 go_ret;exact nJ.of (n:=m+1) HP.o hO3 hG3 dJ HM.o.symm
theorem zA (w:World)(S:Nat->Prop)(g:Nat)(s:Ln.St)(h:aJ w S g s):
 Calls prog 80 #[.pointer (some ⟨g,0,none⟩)] w fun e w'=>e=.returned (.bool (Ln.begun s))∧w'=w:=by
 obtain⟨ao,cap,hg,_⟩:=h;have c0:w.cell? ⟨g,0,none⟩=some (.slice ao s.line.length cap):=cell_of_row w g 0 _ _ _ hg;have c1:w.cell? ⟨g,1,none⟩=some (.bool s.ending):=cell_of_row w g 1 _ _ _ hg;clear hg;unfold Ln.begun;generalize s.ending=b at c1 ⊢;cases b
 . go_enter func80,ntmps80;go_wp2;go_ret;exact⟨bA (by simp),rfl⟩
 . go_enter func80,ntmps80;go_wp2;go_ret;exact⟨bA (by simp),rfl⟩
theorem jH.cap_ {w:World}{ao:Option Addr}{cap:Nat}{l:List Sp.Up}(h:jH w ao cap l):l.length<=cap:=by
 obtain⟨us,_,hv,_⟩:=h;exact hv.1
theorem FK (l:List Sp.Up)(a1 a2:Option Addr)(c1 c2:Nat)(w:World)(h1:jH w a1 c1 l)(h2:jH w a2 c2 l)(hN:l.length<=1000000):
 Calls prog 17 #[.slice a1 l.length c1,.slice a2 l.length c2] w fun e w'=>e=.returned (.bool true)∧∃q,w'=w.drewN q:=by
 have H1:=H9 h1;have H2:=H9 h2
 have hc1:=h1.cap_;have hc2:=h2.cap_
 clear h1 h2;go_enter func17,ntmps17;go_wp2;go_loopw [5] (fun t wr=>∃k q:Nat,k<=l.length∧t=.int .i64 k∧wr=w.drewN q) (fun t _=>l.length-(intOf t).toNat)
 case atStart=>exact⟨0,0,Nat.zero_le _,rfl,rfl⟩
 case round =>
  obtain⟨k,q,hk,rfl,rfl⟩:=hrel;by_cases hlt:k<l.length
  . have e1:(k:Int)<l.length:=by omega
    obtain⟨b1,o1,s1,rfl,x0,x1,x2,x3,x4,x5⟩:=H1.o.at_ k hlt;obtain⟨b2,o2,s2,rfl,y0,y1,y2,y3,y4,y5⟩:=H2.o.at_ k hlt;have RZ:Hid (∀n,Calls prog 15 #[.slice s1.bo l[k].bytes.length s1.aj,.slice s2.bo l[k].bytes.length s2.aj] (w.drewN n) fun e w'=>e=.returned (.bool true)∧w'=w.drewN n):=fun n=>by
     have:=qF (w.drewN n) s1.bo s2.bo s1.aj s2.aj l[k].bytes.length l[k].bytes.length l[k].bytes l[k].bytes rfl rfl (x5.drewN n) (y5.drewN n);rw[decide_eq_true rfl] at this;exact this
    have t1:(l[k].note.toList==l[k].note.toList)=true:=beq_self_eq_true _;clear x5 y5;generalize l[k]=p at *;generalize p.bytes.length=pn at *;go_wp2;go_quiet ((go_at_call 15;exact(RZ.o _).mono (fun e w2 hw=>⟨hw.1,_,hw.2⟩)))
    go_wp2;go_roundw
    case rel=>exact⟨k+1,q+nq,by omega,by go_num,by simp⟩
    case measure=>simp[intOf];omega
  . obtain rfl:k=l.length:=by omega
    go_wp2;go_ret;exact⟨rfl,q,rfl⟩
end Go.Proofs.YtjmndjmhjleabaaGreatDoor