/- Small texts, one behind the other: LinA, LinB, CkA, PmRdA, PmRdB, PmRdC, TdA, RqAdd, LinG, RfHS. -/
import Derived.Test.YtjmndjmhjleabaaGreatDoorAl
import Derived.Test.YtjmndjmhjleabaaGreatDoorAm
import Derived.Test.YtjmndjmhjleabaaGreatDoorPk11
import Derived.Test.YtjmndjmhjleabaaGreatDoorPk4
import Derived.Test.YtjmndjmhjleabaaGreatDoorPk5
import Derived.Test.YtjmndjmhjleabaaGreatDoorPk10
import Derived.Test.YtjmndjmhjleabaaGreatDoorBase
import Derived.Test.YtjmndjmhjleabaaGreatDoorProg
import Derived.Test.YtjmndjmhjleabaaGreatDoorPk16
import Derived.Test.YtjmndjmhjleabaaGreatDoorPk13
import Derived.Deep.QuietTactic
import Derived.BigQuiet
set_option maxHeartbeats 4000000
set_option maxRecDepth 100000
open Go.Proofs.Tryz
namespace Go.Proofs.YtjmndjmhjleabaaGreatDoor
open Go.RowKit
def iA (w:World)(S:Nat->Prop)(g:Nat)(s:Ln.St):Prop :=
 ∃ao cap, w.heap[g]? = some (.cells #[.slice ao s.line.length cap, .bool s.ending, .int .i64 (s.code : Int)] 192 (0, 0)) ∧
   iF w 0 5 ao cap s.line∧S g∧∀a,ao=some a->S a.block
theorem iA.lt {w:World}{S:Nat->Prop}{g:Nat}{s:Ln.St}(h:iA w S g s):g<w.heap.size:=by
 obtain⟨_,_,hg,_⟩:=h;exact(aL.1 hg).1
theorem iA.mono {w:World}{S S':Nat->Prop}{g:Nat}{s:Ln.St}(h:iA w S g s)(hs:∀k,k<w.heap.size->S k->S' k):iA w S' g s:=by
 obtain⟨ao,cap,hg,ho,h1,h2⟩:=h;exact⟨ao,cap,hg,ho,hs g (aL.1 hg).1 h1,fun a e=>hs _ (ho.block a e).2 (h2 a e)⟩
theorem iA.turns {w w':World}{S S':Nat->Prop}{g:Nat}{s:Ln.St}(h:iA w S g s)(ht:Turns S' w w')(hs:∀k,S k->¬S' k):iA w' S g s:=by
 obtain⟨ao,cap,hg,ho,h1,h2⟩:=h;exact⟨ao,cap,ht.row hg (hs g h1),ho.turns ht (fun a e=>hs _ (h2 a e)),h1,h2⟩
theorem iA.drewN {w:World}{S:Nat->Prop}{g:Nat}{s:Ln.St}(h:iA w S g s)(n:Nat):iA (w.drewN n) S g s:=h.turns (Turns.drewN (fun _=>False) w n) (fun _ _ e=>e)
theorem iA.code {w:World}{S:Nat->Prop}{g:Nat}{s:Ln.St}(h:iA w S g s)(k:Nat):iA (w.setCell ⟨g,2,none⟩ (.int .i64 (k:Int))) S g { s with code:=k }∧Turns S w (w.setCell ⟨g,2,none⟩ (.int .i64 (k:Int))):=by
 obtain⟨ao,cap,hg,ho,h1,h2⟩:=h;refine⟨⟨ao,cap,?_,ho.turns (Turns.setCell (fun i=>i=g) w _ _ rfl) ?_,h1,h2⟩,Turns.setCell S w _ _ h1⟩
 . rw[fO w g 2 _ _ _ hg];rfl
 . intro a e;have:=lG hg ho (by decide);rw[gP,e] at this;intro e2;exact this (by simp[gL,e2])
theorem iA.ends {w:World}{S:Nat->Prop}{g:Nat}{s:Ln.St}(h:iA w S g s)(b:Bool):iA (w.setCell ⟨g,1,none⟩ (.bool b)) S g { s with ending:=b }∧Turns S w (w.setCell ⟨g,1,none⟩ (.bool b)):=by
 obtain⟨ao,cap,hg,ho,h1,h2⟩:=h;refine⟨⟨ao,cap,?_,ho.turns (Turns.setCell (fun i=>i=g) w _ _ rfl) ?_,h1,h2⟩,Turns.setCell S w _ _ h1⟩
 . rw[fO w g 1 _ _ _ hg];rfl
 . intro a e;have:=lG hg ho (by decide);rw[gP,e] at this;intro e2;exact this (by simp[gL,e2])
theorem iA.drop {w:World}{S:Nat->Prop}{g:Nat}{s:Ln.St}(h:iA w S g s):iA (w.setCell ⟨g,0,none⟩ (.slice none 0 0)) S g { s with line:=[] }∧Turns S w (w.setCell ⟨g,0,none⟩ (.slice none 0 0)):=by
 obtain⟨ao,cap,hg,ho,h1,h2⟩:=h;refine⟨⟨none,0,?_,iF.nil _ _ _,h1,fun a e=>by cases e⟩,Turns.setCell S w _ _ h1⟩;rw[fO w g 0 _ _ _ hg];rfl
theorem iA.grow {w w1:World}{S:Nat->Prop}{g:Nat}{s:Ln.St}{l:av}{ao:ak}{cap:Nat}{gW:ak}{cap':Nat}(hg:w.heap[g]? = some (.cells #[.slice ao s.line.length cap,.bool s.ending,.int .i64 (s.code:Int)] 192 (0,0)))(h1:S g)(ho:iF w1 0 5 gW cap' l)(ht:Turns (fun k=>S k∧k≠g) w w1)(ha:∀a,gW=some a->gN S w a.block)(n:Nat)(hn:n=l.length):
 iA (w1.setCell ⟨g,0,none⟩ (.slice gW n cap')) (gN S w) g { s with line:=l }∧Turns S w (w1.setCell ⟨g,0,none⟩ (.slice gW n cap')):=by
 subst hn;have hg1:=ht.row hg (fun e=>e.2 rfl);refine⟨⟨gW,cap',?_,ho.turns (Turns.setCell (fun i=>i=g) w1 _ _ rfl) ?_,Or.inl h1,ha⟩,(ht.mono (fun k e=>e.1)).trans (Turns.setCell S w1 _ _ h1) (fun i e _=>e)⟩
 . rw[fO w1 g 0 _ _ _ hg1];rfl
 . intro a e;have:=lG hg1 ho (by decide);rw[gP,e] at this;intro e2;exact this (by simp[gL,e2])
theorem uO (w:World):
 Calls prog 81 #[] w fun e w'=>e=.returned (.pointer (some ⟨w.heap.size,0,none⟩))∧iA w' (fun k=>w.heap.size<=k) w.heap.size Ln.start∧aj w w':=by
 go_enter func81,ntmps81;go_wp2;go_ret;exact⟨rfl,⟨none,0,fI w _,iF.nil _ _ _,aM _,fun a e=>by cases e⟩,(fJ _ _).alloc (aM _) _⟩
theorem og (w:World)(S:Nat->Prop)(g:Nat)(s:Ln.St)(c:UInt8)(h:iA w S g s):
 Calls prog 139 #[.pointer (some ⟨g,0,none⟩),.int .u8 c.toNat] w fun e w'=>e=.returned (.int .i64 (Ln.fault s c:Int))∧w'=w:=by
 obtain⟨ao,cap,hg,_⟩:=h;have c0:w.cell? ⟨g,0,none⟩=some (.slice ao s.line.length cap):=fK w g 0 _ _ _ hg;have c1:w.cell? ⟨g,1,none⟩=some (.bool s.ending):=fK w g 1 _ _ _ hg;clear hg;have HV:=H9 (sM (c.toNat:Int) w);by_cases hq:s.ending=(c==10)
 . by_cases mE:c=13
   . have Y4:((c.toNat:Int)==13)=true:=by rw[mE];rfl
     have t10:((c.toNat:Int)==10)=false:=by rw[mE];rfl
     have hF:Ln.fault s c=0:=by unfold Ln.fault;rw[if_pos hq,if_pos (Or.inl mE)]
     have hE:s.ending=false:=by rw[hq,mE];rfl
     rw[hF];rw[hE] at c1;clear hF hq hE mE;go_enter func139,ntmps139;go_wp2;go_ret;exact⟨rfl,rfl⟩
   . have Y4:((c.toNat:Int)==13)=false:=kZ mE;by_cases h10:c=10
     . have t10:((c.toNat:Int)==10)=true:=by rw[h10];rfl
       have hF:Ln.fault s c=0:=by unfold Ln.fault;rw[if_pos hq,if_pos (Or.inr h10)]
       have hE:s.ending=true:=by rw[hq,h10];rfl
       rw[hF];rw[hE] at c1;clear hF hq hE mE h10;go_enter func139,ntmps139;go_wp2;go_ret;exact⟨rfl,rfl⟩
     . have t10:((c.toNat:Int)==10)=false:=kZ h10;have hE:s.ending=false:=by rw[hq];exact aS.2 h10
       have hno:¬(c=13∨c=10):=by rintro (e | e) <;> contradiction
       rw[hE] at c1;cases hv:Ch.visible (c.toNat:Int)
       . have hF:Ln.fault s c=3:=by unfold Ln.fault;rw[if_pos hq,if_neg hno,if_pos hv]
         rw[hv] at HV;rw[hF];clear hF hq hE mE h10 hno hv;go_enter func139,ntmps139;go_wp2_with fail
         refine HV.o.mono ?_;rintro e w' ⟨rfl,hw⟩;subst hw;go_wp2;go_ret;exact⟨rfl,rfl⟩
       . rw[hv] at HV;by_cases h2:200<=s.line.length
         . have hF:Ln.fault s c=4:=by unfold Ln.fault;rw[if_pos hq,if_neg hno,if_neg (by rw[hv];simp),if_pos h2]
           have t2:decide ((s.line.length:Int)≥200)=true:=by rw[bR];omega
           rw[hF];clear hF hq hE mE h10 hno hv;go_enter func139,ntmps139;go_wp2_with fail
           refine HV.o.mono ?_;rintro e w' ⟨rfl,hw⟩;subst hw;go_wp2;go_ret;exact⟨rfl,rfl⟩
         . have hF:Ln.fault s c=0:=by unfold Ln.fault;rw[if_pos hq,if_neg hno,if_neg (by rw[hv];simp),if_neg h2]
           have t2:decide ((s.line.length:Int)≥200)=false:=by rw[bQ];omega
           rw[hF];clear hF hq hE mE h10 hno hv;go_enter func139,ntmps139;go_wp2_with fail
           refine HV.o.mono ?_;rintro e w' ⟨rfl,hw⟩;subst hw;go_wp2;go_ret;exact⟨rfl,rfl⟩
 . have hF:Ln.fault s c=2:=by unfold Ln.fault;rw[if_neg hq]
   rw[hF];by_cases h10:c=10
   . have t10:((c.toNat:Int)==10)=true:=by rw[h10];rfl
     have hE:s.ending=false:=by
      cases hh:s.ending
      . rfl
      . exact absurd (by rw[hh,h10];rfl) hq
     rw[hE] at c1;clear hF hq hE h10;go_enter func139,ntmps139;go_wp2;go_ret;exact⟨rfl,rfl⟩
   . have t10:((c.toNat:Int)==10)=false:=kZ h10;have hE:s.ending=true:=by
      cases hh:s.ending
      . exact absurd (by rw[hh];exact(aS.2 h10).symm) hq
      . rfl
     rw[hE] at c1;clear hF hq hE h10;go_enter func139,ntmps139;go_wp2;go_ret;exact⟨rfl,rfl⟩
def Ln.fed (s:Ln.St)(c:UInt8):Value:=.tuple #[.string ⟨(Ln.text s c).toArray⟩,.bool (Ln.ends s c),.int .i64 ((Ln.next s c).code:Int)]
theorem Ln.D5 {s s':Ln.St}{c:UInt8}{t:av}{b:Bool}{k:Nat}(ht:Ln.text s c=t)(hb:Ln.ends s c=b)(hn:Ln.next s c=s')(hk:s'.code=k):Ln.fed s c=.tuple #[.string ⟨t.toArray⟩,.bool b,.int .i64 (k:Int)]:=by
 unfold Ln.fed;rw[ht,hb,hn,hk]
theorem xE {w:World}{S:Nat->Prop}{g:Nat}{s:Ln.St}(h:iA w S g s)(W:World):iA w (gN S W) g s:=h.mono (fun _ _ e=>Or.inl e)
theorem iH.vR (W:World)(c:UInt8)(t:Nat)(fr:Nat×Nat){k:Nat}(hk:W.heap.size=k):iH (W.alloc (.cells #[.int .u8 (c.toNat:Int)] t fr)) (Option.some ⟨k,0,Option.none⟩) 1 [c]:=hk▸iH.one W c t fr
theorem VX {W w3:World}{g:Nat}{row:Obj}{r:Option Nat}(hg:W.heap[g]? = some row)(ob:Obj)(hG:(W.alloc ob).grownBy w3 r)(hr:some g≠r):w3.heap[g]? = some row:=by
 have hlt:g<W.heap.size:=(aL.1 hg).1;have:=hG.block g (by simp;omega) hr;rw[this,(gB W ob none).block g hlt (by simp)];exact hg
theorem NH (w:World)(S:Nat->Prop)(g:Nat)(s:Ln.St)(c:UInt8)(h:iA w S g s)(hc:s.code≠0):
 Calls prog 101 #[.pointer (some ⟨g,0,none⟩),.int .u8 c.toNat] w fun e w'=>e=.returned (Ln.fed s c)∧iA w' (gN S w) g (Ln.next s c)∧Turns S w w':=by
 have HA:=Ln.again c hc;rw[Ln.D5 HA.2.1 HA.2.2 HA.1 rfl,HA.1];clear HA;have HS:=H9 h;obtain⟨ao,cap,hg,_⟩:=h;have c2:w.cell? ⟨g,2,none⟩=some (.int .i64 (s.code:Int)):=fK w g 2 _ _ _ hg;have t0:((s.code:Int)==0)=false:=by rw[aS];omega
 have t1:((s.code:Int) != 0)=true:=by rw[cZ];omega
 clear hg hc;go_enter func101,ntmps101;go_wp2;go_quiet (fail)
 go_wp2;go_ret3
 exact⟨rfl,xE (HS.o.drewN _) w,Turns.drewN _ _ _⟩
theorem RO (w:World)(S:Nat->Prop)(g:Nat)(s:Ln.St)(c:UInt8)(k:Nat)(h:iA w S g s)(hc:s.code=0)(hf:Ln.fault s c=k)(hk:k≠0):
 Calls prog 101 #[.pointer (some ⟨g,0,none⟩),.int .u8 c.toNat] w fun e w'=>e=.returned (Ln.fed s c)∧iA w' (gN S w) g (Ln.next s c)∧Turns S w w':=by
 have hn:Ln.next s c={ s with code:=k }:=by unfold Ln.next;rw[if_neg (by omega),hf,if_pos hk]
 rw[Ln.D5 (t:=[]) (b:=false) (by unfold Ln.text;rw[if_neg (fun e=>hk (hf.symm.trans e.2.1))]) (by unfold Ln.ends;rw[bQ];exact fun e=>hk (hf.symm.trans e.2.1)) hn rfl,hn];have HF:=H9 (og w S g s c h);rw[hf] at HF;have HS:=H9 (h.code k);obtain⟨ao,cap,hg,_⟩:=h;have c2:w.cell? ⟨g,2,none⟩=some (.int .i64 0):=by
  rw[fK w g 2 _ _ _ hg];simp[hc]
 have f2:w.frozen? ⟨g,2,none⟩=false:=fM w g 2 _ _ hg;have t1:((k:Int) != 0)=true:=by rw[cZ];omega
 clear hg hc hf hn hk;go_enter func101,ntmps101;go_wp2_with fail
 refine HF.o.mono ?_;rintro e w1 ⟨rfl,hw⟩;subst hw;go_wp2;go_quiet (fail)
 go_wp2;go_ret3
 exact⟨rfl,xE (HS.o.1.drewN _) _,HS.o.2.trans (Turns.drewN S _ _) (fun _ e _=>e)⟩
theorem VY (w:World)(S:Nat->Prop)(g:Nat)(s:Ln.St)(h:iA w S g s)(hc:s.code=0)(hf:Ln.fault s 10=0):
 Calls prog 101 #[.pointer (some ⟨g,0,none⟩),.int .u8 10] w fun e w'=>e=.returned (Ln.fed s 10)∧iA w' (gN S w) g (Ln.next s 10)∧Turns S w w':=by
 have hn:Ln.next s 10=⟨[],false,0⟩:=by unfold Ln.next;rw[if_neg (by omega),hf];rfl
 rw[Ln.D5 (t:=s.line) (b:=true) (by unfold Ln.text;rw[if_pos ⟨hc,hf,rfl⟩]) (by unfold Ln.ends;rw[bR];exact⟨hc,hf,rfl⟩) hn rfl,hn];have HF:=H9 (og w S g s 10 h);rw[hf] at HF;have HS:=H9 (h.code 0);have HS2:=H9 (HS.o.1.drop);have Jg:=H9 (HS2.o.1.ends false);obtain⟨ao,cap,hg,ho,_⟩:=h;have c0:w.cell? ⟨g,0,none⟩=some (.slice ao s.line.length cap):=fK w g 0 _ _ _ hg;have c1:w.cell? ⟨g,1,none⟩=some (.bool s.ending):=fK w g 1 _ _ _ hg;have c2:w.cell? ⟨g,2,none⟩=some (.int .i64 0):=by
  rw[fK w g 2 _ _ _ hg];simp[hc]
 have f0:w.frozen? ⟨g,0,none⟩=false:=fM w g 0 _ _ hg;have f1:w.frozen? ⟨g,1,none⟩=false:=fM w g 1 _ _ hg;have f2:w.frozen? ⟨g,2,none⟩=false:=fM w g 2 _ _ hg;have hq:=(ho.xg.turns (w':=w.setCell ⟨g,2,none⟩ (.int .i64 0)) (Turns.setCell (fun i=>i=g) w _ _ rfl) (fun a e=>by
  have:=lG hg ho (by decide);rw[gP,e] at this;intro e2;exact this (by simp[gL,e2]))).str (P:=prog) 31 9 5 underlying31 underlying5 underlying9
 generalize (⟨s.line.toArray⟩:ay)=bs at hq ⊢;clear hg ho hc hf hn;go_enter func101,ntmps101;go_wp2_with fail
 refine HF.o.mono ?_;rintro e w1 ⟨rfl,hw⟩;subst hw;go_wp2;go_ret3
 exact⟨rfl,xE Jg.o.1 _,HS.o.2.trans (HS2.o.2.trans Jg.o.2 (fun _ e _=>e)) (fun _ e _=>e)⟩
theorem Y5 (w:World)(S:Nat->Prop)(g:Nat)(s:Ln.St)(h:iA w S g s)(hc:s.code=0)(hf:Ln.fault s 13=0):
 Calls prog 101 #[.pointer (some ⟨g,0,none⟩),.int .u8 13] w fun e w'=>e=.returned (Ln.fed s 13)∧iA w' (gN S w) g (Ln.next s 13)∧Turns S w w':=by
 have hn:Ln.next s 13=⟨s.line,true,0⟩:=by unfold Ln.next;rw[if_neg (by omega),hf,hc];rfl
 rw[Ln.D5 (t:=[]) (b:=false) (by unfold Ln.text;rw[if_neg (fun e=>by cases e.2.2)]) (by unfold Ln.ends;rw[bQ];exact fun e=>by cases e.2.2) hn rfl,hn];have HF:=H9 (og w S g s 13 h);rw[hf] at HF;have HS:=H9 (h.code 0);have Jg:=H9 (HS.o.1.ends true);obtain⟨ao,cap,hg,ho,_⟩:=h;have c1:w.cell? ⟨g,1,none⟩=some (.bool s.ending):=fK w g 1 _ _ _ hg;have c2:w.cell? ⟨g,2,none⟩=some (.int .i64 0):=by
  rw[fK w g 2 _ _ _ hg];simp[hc]
 have f1:w.frozen? ⟨g,1,none⟩=false:=fM w g 1 _ _ hg;have f2:w.frozen? ⟨g,2,none⟩=false:=fM w g 2 _ _ hg;clear hg ho hc hf hn;go_enter func101,ntmps101;go_wp2_with fail
 refine HF.o.mono ?_;rintro e w1 ⟨rfl,hw⟩;subst hw;go_wp2;go_ret3
 exact⟨rfl,xE Jg.o.1 _,HS.o.2.trans Jg.o.2 (fun _ e _=>e)⟩
theorem RP (w:World)(S:Nat->Prop)(g:Nat)(s:Ln.St)(c:UInt8)(h:iA w S g s)(hs:s.line.length<=200)(hc:s.code=0)(hf:Ln.fault s c=0)(h10:c≠10)(mE:c≠13):
 Calls prog 101 #[.pointer (some ⟨g,0,none⟩),.int .u8 c.toNat] w fun e w'=>e=.returned (Ln.fed s c)∧iA w' (gN S w) g (Ln.next s c)∧Turns S w w':=by
 have hn:Ln.next s c=⟨s.line++[c],s.ending,0⟩:=by unfold Ln.next;rw[if_neg (by omega),hf,if_neg (by omega),if_neg h10,if_neg mE,hc]
 rw[Ln.D5 (t:=[]) (b:=false) (by unfold Ln.text;rw[if_neg (fun e=>h10 e.2.2)]) (by unfold Ln.ends;rw[bQ];exact fun e=>h10 e.2.2) hn rfl,hn];have HF:=H9 (og w S g s c h);rw[hf] at HF;have t10:((c.toNat:Int)==10)=false:=kZ h10;have Y4:((c.toNat:Int)==13)=false:=kZ mE;have HS:=H9 (h.code 0);obtain⟨ao,cap,hg,ho,h1,h2⟩:=h;obtain⟨i0,hi0,hz0,hz1,hz2⟩:=info_parts jO;have Hi:=H9 hi0;have kK:=H9 hz0;have kH:=H9 hz1;have kL:=H9 hz2
 have hne:∀a,ao=some a->a.block≠g:=fun a e e2=>by
  have:=lG hg ho (by decide);rw[gP,e] at this;exact this (by simp[gL,e2])
 have c0:w.cell? ⟨g,0,none⟩=some (.slice ao s.line.length cap):=fK w g 0 _ _ _ hg;have c2:w.cell? ⟨g,2,none⟩=some (.int .i64 0):=by
  rw[fK w g 2 _ _ _ hg];simp[hc]
 have f0:w.frozen? ⟨g,0,none⟩=false:=fM w g 0 _ _ hg;have f2:w.frozen? ⟨g,2,none⟩=false:=fM w g 2 _ _ hg;have HO:=H9 (ho.turns (w':=w.setCell ⟨g,2,none⟩ (.int .i64 0)) (Turns.setCell (fun i=>i=g) w _ _ rfl) (fun a e=>hne a e));have HG:Hid ((w.setCell ⟨g,2,none⟩ (.int .i64 0)).heap[g]? = some (.cells #[.slice ao s.line.length cap,.bool s.ending,.int .i64 (0:Int)] 192 (0,0))):=by
  show _=_;rw[fO w g 2 _ _ _ hg];rfl
 have hlt:g<w.heap.size:=(aL.1 hg).1;clear hg ho hf hn hi0 hz0 hz1 hz2 h10 mE;go_enter func101,ntmps101;go_wp2_with fail
 refine HF.o.mono ?_;rintro e w1 ⟨rfl,hw⟩;subst hw;have HN:some g≠gL ao:=by
  cases ao with
  | none=>simp[gL]
  | some a=>intro e;injection e with e;exact hne a rfl e.symm
 go_wp2_with (at_builtin;refine iJ rfl (.tmp 23) (.tmp 25) 31 rfl 0 5 i0 underlying31 Hi.o kK.o kH.o kL.o (l:=s.line) (l2:=[c]) rfl rfl (HO.o.alloc _) rfl rfl (iH.vR _ _ _ _ (by simp)) (by simp;omega) (aA _) ?_;intro jQ gX w3 hO3 hG3 kC;have h3:=VX HG.o _ hG3 HN;have c3:w3.cell? ⟨g,0,none⟩=some (.slice ao s.line.length cap):=fK w3 g 0 _ _ _ h3;have f3:w3.frozen? ⟨g,0,none⟩=false:=fM w3 g 0 _ _ h3;have oD:=H9 hO3;have sG:=H9 hG3;have Jh:=H9 kC;clear hO3 hG3 kC h3)
 go_ret3
 have hz:(w1.setCell ⟨g,2,none⟩ (.int .i64 0)).heap.size=w1.heap.size:=by simp
 have hT:Turns (fun k=>S k∧k≠g) (w1.setCell ⟨g,2,none⟩ (.int .i64 0)) w3 :=
  (Turns.iZ (gB _ _ none) (fun k e => by cases e)).trans (Turns.iZ sG.o (S := fun k => S k ∧ k ≠ g) (fun k e => by
   cases ao with
   | none=>cases e
   | some a=>injection e with e;subst e;exact⟨h2 a rfl,hne a rfl⟩)) (fun _ e _=>e)
 have hA:∀a,jQ=some a->gN S (w1.setCell ⟨g,2,none⟩ (.int .i64 0)) a.block:=by
  intro a e;subst e;rcases Jh.o with e | e
  . cases ao with
    | none=>cases e
    | some a'=>injection e with e;rw[e];exact Or.inl (h2 a' rfl)
  . injection e with e;rw[e];exact Or.inr (by simp)
 have hL:=iA.grow (s:=⟨s.line,s.ending,0⟩) HG.o h1 oD.o hT hA (s.line.length+1) (by simp);refine⟨rfl,hL.1.mono (fun k _ e=>?_),HS.o.2.trans hL.2 (fun _ e _=>e)⟩;rcases e with e | e
 . exact Or.inl e
 . exact Or.inr (by omega)
theorem pz (w:World)(S:Nat->Prop)(g:Nat)(s:Ln.St)(c:UInt8)(h:iA w S g s)(hs:s.line.length<=200):
 Calls prog 101 #[.pointer (some ⟨g,0,none⟩),.int .u8 c.toNat] w fun e w'=>e=.returned (Ln.fed s c)∧iA w' (gN S w) g (Ln.next s c)∧Turns S w w':=by
 by_cases hc:s.code=0
 . by_cases hf:Ln.fault s c=0
   . by_cases h10:c=10
     . subst h10;exact VY w S g s h hc hf
     . by_cases mE:c=13
       . subst mE;exact Y5 w S g s h hc hf
       . exact RP w S g s c h hs hc hf h10 mE
   . exact RO w S g s c _ h hc rfl hf
 . exact NH w S g s c h hc
structure iO (w:World)(S:Nat->Prop)(g gl:Nat)(nx lf rm fd code:Int)(ln:Ln.St):Prop where
 row:w.heap[g]? = some (.cells #[.pointer (some ⟨gl,0,none⟩),.int .i64 nx,.int .i64 lf,.int .i64 rm,.int .i64 fd,.int .i64 code] 231 (0,0))
 mem:S g
 line:iA w (fun k=>S k∧k≠g) gl ln
def pV (w:World)(S:Nat->Prop)(g:Nat)(s:Ck.St):Prop :=
 ∃gl nx lf rm fd ln,iO w S g gl nx lf rm fd (Ck.pc s:Int) ln∧(Ck.pc s=0->ln=s.ln∧nx=(Ck.nx s:Int)∧lf=(Ck.lf s:Int)∧rm=4000-(s.total:Int)∧fd=(s.count:Int))
section
variable {w w':World} {S S':Nat->Prop} {g gl:Nat} {nx lf rm fd code:Int} {ln:Ln.St}
theorem iO.mono (h:iO w S g gl nx lf rm fd code ln)(hs:∀k,k<w.heap.size->S k->S' k):iO w S' g gl nx lf rm fd code ln :=
 ⟨h.row,hs g (aL.1 h.row).1 h.mem,h.line.mono (fun k hk e=>⟨hs k hk e.1,e.2⟩)⟩
theorem iO.turns (h:iO w S g gl nx lf rm fd code ln)(ht:Turns S' w w')(hs:∀k,S k->¬S' k):iO w' S g gl nx lf rm fd code ln :=
 ⟨ht.row h.row (hs g h.mem),h.mem,h.line.turns ht (fun k e=>hs k e.1)⟩
theorem iO.stay (h:iO w S g gl nx lf rm fd code ln)(hb:aj w w'):iO w' S g gl nx lf rm fd code ln:=h.turns (Turns.of_below (S:=fun _=>False) hb) (fun _ _ e=>e)
theorem iO.cell (h:iO w S g gl nx lf rm fd code ln)(j:Nat)(hj:j<6):w.cell? ⟨g,j,none⟩=#[Value.pointer (some ⟨gl,0,none⟩),.int .i64 nx,.int .i64 lf,.int .i64 rm,.int .i64 fd,.int .i64 code][j]?:=by
 match j,hj with
 | 0,_=>exact fK w g 0 _ _ _ h.row
 | 1,_=>exact fK w g 1 _ _ _ h.row
 | 2,_=>exact fK w g 2 _ _ _ h.row
 | 3,_=>exact fK w g 3 _ _ _ h.row
 | 4,_=>exact fK w g 4 _ _ _ h.row
 | 5,_=>exact fK w g 5 _ _ _ h.row
theorem iO.frozen (h:iO w S g gl nx lf rm fd code ln)(j:Nat):w.frozen? ⟨g,j,none⟩=false:=fM w g j _ _ h.row
theorem iO.put (h:iO w S g gl nx lf rm fd code ln)(j:Nat)(v:Value){nx' lf' rm' fd' code':Int}
 (e:(#[Value.pointer (some ⟨gl,0,none⟩),.int .i64 nx,.int .i64 lf,.int .i64 rm,.int .i64 fd,.int .i64 code].setIfInBounds j v)=#[Value.pointer (some ⟨gl,0,none⟩),.int .i64 nx',.int .i64 lf',.int .i64 rm',.int .i64 fd',.int .i64 code']) :
 iO (w.setCell ⟨g,j,none⟩ v) S g gl nx' lf' rm' fd' code' ln:=by
 refine⟨?_,h.mem,h.line.turns (Turns.setCell (fun i=>i=g) w _ _ rfl) (fun k e=>e.2)⟩;rw[fO w g j _ _ _ h.row,e]
theorem iO.next (h:iO w S g gl nx lf rm fd code ln)(k:Int):iO (w.setCell ⟨g,1,none⟩ (.int .i64 k)) S g gl k lf rm fd code ln:=h.put 1 _ rfl
theorem iO.left (h:iO w S g gl nx lf rm fd code ln)(k:Int):iO (w.setCell ⟨g,2,none⟩ (.int .i64 k)) S g gl nx k rm fd code ln:=h.put 2 _ rfl
theorem iO.room (h:iO w S g gl nx lf rm fd code ln)(k:Int):iO (w.setCell ⟨g,3,none⟩ (.int .i64 k)) S g gl nx lf k fd code ln:=h.put 3 _ rfl
theorem iO.fields (h:iO w S g gl nx lf rm fd code ln)(k:Int):iO (w.setCell ⟨g,4,none⟩ (.int .i64 k)) S g gl nx lf rm k code ln:=h.put 4 _ rfl
theorem iO.Ib (h:iO w S g gl nx lf rm fd code ln)(k:Int):iO (w.setCell ⟨g,5,none⟩ (.int .i64 k)) S g gl nx lf rm fd k ln:=h.put 5 _ rfl
theorem iO.turn (h:iO w S g gl nx lf rm fd code ln)(j:Nat)(v:Value):Turns S w (w.setCell ⟨g,j,none⟩ v):=Turns.setCell S w _ _ h.mem
end
theorem pV.mono {w:World}{S S':Nat->Prop}{g:Nat}{s:Ck.St}(h:pV w S g s)(hs:∀k,k<w.heap.size->S k->S' k):pV w S' g s:=by
 obtain⟨gl,nx,lf,rm,fd,ln,h,k⟩:=h;exact⟨gl,nx,lf,rm,fd,ln,h.mono hs,k⟩
theorem pV.turns {w w':World}{S S':Nat->Prop}{g:Nat}{s:Ck.St}(h:pV w S g s)(ht:Turns S' w w')(hs:∀k,S k->¬S' k):pV w' S g s:=by
 obtain⟨gl,nx,lf,rm,fd,ln,h,k⟩:=h;exact⟨gl,nx,lf,rm,fd,ln,h.turns ht hs,k⟩
theorem FW (w:World):
 Calls prog 143 #[] w fun e w'=>∃g,e=.returned (.pointer (some ⟨g,0,none⟩))∧pV w' (fun k=>w.heap.size<=k) g Ck.start∧aj w w':=by
 go_enter func143,ntmps143;go_wp2_with fail
 refine(uO w).mono ?_;rintro e w1 ⟨rfl,hL,hB⟩;have HL:=H9 hL;have HB:=H9 hB
 clear hL hB;go_wp2;go_ret;have hsz:=HB.o.size;have hlt:=HL.o.lt;have hT:Turns (fun _=>False) w1 (w1.alloc (.cells #[.pointer (some ⟨w.heap.size,0,none⟩),.int .i64 0,.int .i64 0,.int .i64 4000,.int .i64 0,.int .i64 0] 231)):=Turns.of_below ((fJ _ _).alloc (aM _) _);have hL2:=(HL.o.mono (S':=fun k=>w.heap.size<=k∧k≠w1.heap.size) (fun k hk e=>⟨e,by omega⟩)).turns hT (fun _ _ e=>e);exact⟨w1.heap.size,rfl,⟨w.heap.size,0,0,4000,0,Ln.start,⟨fI w1 _,hsz,hL2⟩,fun _=>⟨rfl,rfl,rfl,rfl,rfl⟩⟩,HB.o.trans ((fJ _ _).alloc hsz _)⟩
def je (w:World)(g:Nat)(s:ay)(i:Nat):Prop:=w.heap[g]? = some (.cells #[.string s,.int .i64 (i:Int)] 248 (0,0))
def only(g:Nat):Nat->Prop:=fun k=>k=g
def gave (c:Nat):Ending:=.panicked [{ v:=.iface 282 (.int .i64 (c:Int)),recovered:=false }]
section
variable {w w':World} {g:Nat} {s:ay} {i:Nat}
theorem je.lt (h:je w g s i):g<w.heap.size:=(aL.1 h).1
theorem je.keep (h:je w g s i)(hb:aj w w'):je w' g s i:=(hb.block g h.lt).trans h
theorem je.drewN (h:je w g s i)(n:Nat):je (w.drewN n) g s i:=h
theorem je.turns {S:Nat->Prop}(h:je w g s i)(ht:Turns S w w')(hn:¬S g):je w' g s i:=ht.row h hn
theorem je.cells (h:je w g s i):w.cell? ⟨g,0,none⟩=some (.string s)∧w.cell? ⟨g,1,none⟩=some (.int .i64 (i:Int))∧w.frozen? ⟨g,1,none⟩=false :=
 ⟨fK w _ 0 _ _ _ h,fK w _ 1 _ _ _ h,fM w _ 1 _ _ h⟩
theorem je.go (h:je w g s i)(j:Nat)(x:Int)(hx:x=j):je (w.setCell ⟨g,1,none⟩ (.int .i64 x)) g s j:=by
 subst hx;unfold je at h ⊢;rw[fO w g 1 _ _ _ h];rfl
end
theorem Turns.go {w:World}{g:Nat}(n:Nat)(v:Value):Turns (only g) w ((w.drewN n).setCell ⟨g,1,none⟩ v) :=
 (Turns.drewN _ w n).trans (Turns.setCell (only g) _ _ _ rfl) (fun _ h _=>h)
theorem rW (s:ay)(i g:Nat)(w:World)(h:je w g s i):
 Calls prog 248 #[.pointer (some ⟨g,0,none⟩)] w fun e w'=>e=.returned (.bool (decide (i<s.size)))∧∃n,w'=w.drewN n:=by
 obtain⟨c0,c1,f1⟩:=h.cells;clear h;go_enter func248,ntmps248;go_wp2;go_quiet (fail)
 go_wp2;go_ret;exact⟨rfl,nq,rfl⟩
theorem wL (s:ay)(i g:Nat)(c:UInt8)(w:World)(h:je w g s i)(hs:s.size<=1000000)(hc:s.data.toList[i]? = some c):
 Calls prog 280 #[.pointer (some ⟨g,0,none⟩),.int .u8 (c.toNat:Int)] w fun e w'=>e=.returned (.bool true)∧je w' g s (i+1)∧Turns (only g) w w':=by
 have hl:s.data.toList.length=s.size:=by rw[aO];rfl
 have HM:=H9 (fun q=>rW s i g (w.drewN q) (h.drewN q));have H:=H9 h;obtain⟨c0,c1,f1⟩:=h.cells;clear h;have hlt:i<s.size:=by
  have:=(aQ.1 hc).1;rwa[hl] at this
 have t1:decide (i<s.size)=true:=by rw[bR];omega
 have hlt':(i:Int)<s.size:=by omega
 have he:s[i]=c:=by
  rw[dD (by rw[hl];exact hlt)] at hc;injection hc with hc
 rw[t1] at HM;have t2:((s[i].toNat:Int) != c.toNat)=false:=Qq he;clear hl he hc;go_enter func280,ntmps280;go_wp2;go_quiet ((go_at_call 248;exact Calls.quiet_of (HM.o _)))
 go_wp2;go_ret;exact⟨rfl,(H.o.drewN nq).go (i+1) _ (by omega),Turns.go _ _⟩
theorem Jt (s:ay)(i g:Nat)(c:UInt8)(w:World)(h:je w g s i)(hc:¬s.data.toList[i]? = some c):
 Calls prog 280 #[.pointer (some ⟨g,0,none⟩),.int .u8 (c.toNat:Int)] w fun e w'=>e=.returned (.bool false)∧je w' g s i∧Turns (only g) w w':=by
 have hl:s.data.toList.length=s.size:=by rw[aO];rfl
 have HM:=H9 (fun q=>rW s i g (w.drewN q) (h.drewN q));have H:=H9 h;obtain⟨c0,c1,f1⟩:=h.cells;clear h;by_cases hlt:i<s.size
 . have t1:decide (i<s.size)=true:=by rw[bR];omega
   have hlt':(i:Int)<s.size:=by omega
   have he:s[i]≠c:=by
    intro e;refine hc ?_;rw[dD (by rw[hl];exact hlt),<-e];simp[ByteArray.getElem_eq_getElem_data]
   rw[t1] at HM;have t2:((s[i].toNat:Int) != c.toNat)=true:=C8 he;clear hl he hc;go_enter func280,ntmps280;go_wp2;go_quiet ((go_at_call 248;exact Calls.quiet_of (HM.o _)))
   go_wp2;go_ret;exact⟨rfl,H.o.drewN nq,Turns.drewN _ _ _⟩
 . have t1:decide (i<s.size)=false:=by rw[bQ];omega
   rw[t1] at HM;clear hl hc;go_enter func280,ntmps280;go_wp2;go_quiet ((go_at_call 248;exact Calls.quiet_of (HM.o _)))
   go_wp2;go_ret;exact⟨rfl,H.o.drewN nq,Turns.drewN _ _ _⟩
theorem wM (s:ay)(i g:Nat)(c:UInt8)(w:World)(h:je w g s i)(hs:s.size<=1000000)(hc:s.data.toList[i]? = some c):
 Calls prog 249 #[.pointer (some ⟨g,0,none⟩),.int .u8 (c.toNat:Int)] w fun e w'=>e=.returned (.tuple #[])∧je w' g s (i+1)∧Turns (only g) w w':=by
 have HS:=H9 (wL s i g c w h hs hc);clear hc;go_enter func249,ntmps249;go_wp2_with fail
 refine HS.o.mono ?_;rintro e w1 ⟨rfl,h1,h2⟩;go_wp2;go_end0
 exact⟨rfl,h1,h2⟩
theorem QD (s:ay)(i g:Nat)(c:UInt8)(w:World)(h:je w g s i)(hc:¬s.data.toList[i]? = some c):
 Calls prog 249 #[.pointer (some ⟨g,0,none⟩),.int .u8 (c.toNat:Int)] w fun e w'=>e=gave 5∧Turns (only g) w w':=by
 have HS:=H9 (Jt s i g c w h hc);clear hc;go_enter func249,ntmps249;go_wp2_with fail
 refine HS.o.mono ?_;rintro e w1 ⟨rfl,h1,h2⟩;go_wp2;exact⟨rfl,rfl,h2⟩
def yj (w:World)(g:Nat):Nat:=match w.cell? ⟨g,1,none⟩ with
 | some (.int _ x)=>x.toNat
 | _=>0
theorem je.yj {w:World}{g:Nat}{s:ay}{i:Nat}(h:je w g s i):yj w g=i:=by
 unfold Go.Proofs.YtjmndjmhjleabaaGreatDoor.yj;rw[h.cells.2.1];simp
theorem Db (s:ay)(k:Nat)(h:k<s.size):s.data.toList[k]'(by rw[aO];exact h)=s[k]:=by simp[ByteArray.getElem_eq_getElem_data]
theorem Ll (c:UInt8):Ch.token (c.toNat:Int)=Pm.tok c:=rfl
theorem Il (c:UInt8)(w:World):
 Calls prog 278 #[.int .u8 (c.toNat:Int)] w fun e w'=>e=.returned (.bool (Pm.blank c))∧w'=w:=by
 by_cases h32:c=32
 . subst h32;go_enter func278,ntmps278;go_wp2;go_ret;exact⟨rfl,rfl⟩
 . have b1:((c.toNat:Int)==32)=false:=kZ h32;by_cases h9:c=9
   . subst h9;go_enter func278,ntmps278;go_wp2;go_ret;exact⟨rfl,rfl⟩
   . have b2:((c.toNat:Int)==9)=false:=kZ h9;have HB:Hid (Pm.blank c=false):=by unfold Hid Pm.blank;rw[aS.2 h32,aS.2 h9];rfl
     clear h32 h9;go_enter func278,ntmps278;go_wp2;go_ret;exact⟨iB (by rw[HB.o]),rfl⟩
theorem QE (s:ay)(i g:Nat)(w:World)(h:je w g s i)(hs:s.size<=1000000)(hi:i<=s.size):
 Calls prog 277 #[.pointer (some ⟨g,0,none⟩),.func (.func 225) #[] #[]] w fun e w' =>
  e=.returned (.string (s.extract i (i+Pm.word s.data.toList i)))∧je w' g s (i+Pm.word s.data.toList i)∧Turns (only g) w w':=by
 have hl:s.data.toList.length=s.size:=by rw[aO];rfl
 have HL:=H9 hl;have H:=H9 h;obtain⟨c0,c1,f1⟩:=h.cells;clear h hl;go_enter func277,ntmps277;go_wp2;go_loopw [] (fun wr=>∃k:Nat,i<=k∧k<=s.size∧je wr g s k∧Turns (only g) w wr∧i+Pm.word s.data.toList i=k+Pm.word s.data.toList k) (fun wr=>s.size-yj wr g)
 case atStart=>exact⟨i,aM _,hi,H.o,Turns.refl _ _,rfl⟩
 case round =>
  clear H c0 c1 f1;obtain⟨k,hik,hk,h,ht,hw⟩:=hrel;have HM:=H9 (fun q=>rW s k g (wr.drewN q) (h.drewN q));have H:=H9 h;have HT:=H9 ht;have HW:=H9 hw;obtain⟨c0,c1,f1⟩:=h.cells;have HA:=H9 h.yj;clear h ht hw;by_cases hlt:k<s.size
  . have t1:decide (k<s.size)=true:=by rw[bR];omega
    have hlt':(k:Int)<s.size:=by omega
    have HLL:Hid (k<s.data.toList.length):=by unfold Hid;rw[HL.o];exact hlt
    have hat:=Db s k hlt;rw[t1] at HM;cases htk:Pm.tok s[k]
    . have HR:Hid (i+Pm.word s.data.toList i=k):=by
       unfold Hid;rw[HW.o];unfold Pm.word;rw[Pm.Ko HLL.o (by rw[hat];exact htk)];rfl
      have HK:=H9 (fun W=>xI (s[k].toNat:Int) W);rw[Ll,htk] at HK;clear hat htk HW;have e1:(i:Int)<=k:=by omega
      have e2:(k:Int)<=s.size:=by omega
      go_wp2;go_quiet ((first | (go_at_call 248;exact Calls.quiet_of (HM.o _)) | (go_at_call 225;exact Calls.quiet_of_same (HK.o _))))
      go_wp2;go_quiet (fail)
      go_wp2;go_ret;exact⟨qE (by rw[HR.o]),by rw[HR.o];exact H.o,(HT.o.trans (Turns.drewN (only g) _ _) (fun _ h _=>h)).trans (Turns.drewN (only g) _ _) (fun _ h _=>h)⟩
    . have HR:Hid (i+Pm.word s.data.toList i=(k+1)+Pm.word s.data.toList (k+1)):=by
       unfold Hid;rw[HW.o];unfold Pm.word;rw[Pm.Kn HLL.o (by rw[hat];exact htk)];omega
      have HK:=H9 (fun W=>xI (s[k].toNat:Int) W);rw[Ll,htk] at HK;clear hat htk HW;go_wp2;go_quiet ((first | (go_at_call 248;exact Calls.quiet_of (HM.o _)) | (go_at_call 225;exact Calls.quiet_of_same (HK.o _))))
      go_wp2;have HN:=H9 ((H.o.drewN nq).go (k+1) ((k:Int)+1) (by omega));go_roundw
      case rel=>exact⟨k+1,by omega,by omega,HN.o,HT.o.trans (Turns.go _ _) (fun _ h _=>h),HR.o⟩
      case measure=>rw[HN.o.yj,HA.o];omega
  . obtain rfl:k=s.size:=by omega
    have t1:decide (s.size<s.size)=false:=by rw[bQ];omega
    have HR:Hid (i+Pm.word s.data.toList i=s.size):=by
     unfold Hid;rw[HW.o];unfold Pm.word;rw[Pm.run_end _ (by rw[HL.o];exact aM _)];rfl
    rw[t1] at HM;clear HW;have e1:(i:Int)<=s.size:=by omega
    go_wp2;go_quiet ((go_at_call 248;exact Calls.quiet_of (HM.o _)))
    go_wp2;go_quiet (fail)
    go_wp2;go_ret;exact⟨qE (by rw[HR.o]),by rw[HR.o];exact H.o,(HT.o.trans (Turns.drewN (only g) _ _) (fun _ h _=>h)).trans (Turns.drewN (only g) _ _) (fun _ h _=>h)⟩
theorem Sc (s:ay)(i g:Nat)(w:World)(h:je w g s i)(hs:s.size<=1000000)(hi:i<=s.size):
 Calls prog 277 #[.pointer (some ⟨g,0,none⟩),.func (.func 278) #[] #[]] w fun e w' =>
  e=.returned (.string (s.extract i (i+Pm.run Pm.blank s.data.toList i)))∧je w' g s (i+Pm.run Pm.blank s.data.toList i)∧Turns (only g) w w':=by
 have hl:s.data.toList.length=s.size:=by rw[aO];rfl
 have HL:=H9 hl;have H:=H9 h;obtain⟨c0,c1,f1⟩:=h.cells;clear h hl;go_enter func277,ntmps277;go_wp2;go_loopw [] (fun wr=>∃k:Nat,i<=k∧k<=s.size∧je wr g s k∧Turns (only g) w wr∧i+Pm.run Pm.blank s.data.toList i=k+Pm.run Pm.blank s.data.toList k) (fun wr=>s.size-yj wr g)
 case atStart=>exact⟨i,aM _,hi,H.o,Turns.refl _ _,rfl⟩
 case round =>
  clear H c0 c1 f1;obtain⟨k,hik,hk,h,ht,hw⟩:=hrel;have HM:=H9 (fun q=>rW s k g (wr.drewN q) (h.drewN q));have H:=H9 h;have HT:=H9 ht;have HW:=H9 hw;obtain⟨c0,c1,f1⟩:=h.cells;have HA:=H9 h.yj;clear h ht hw;by_cases hlt:k<s.size
  . have t1:decide (k<s.size)=true:=by rw[bR];omega
    have hlt':(k:Int)<s.size:=by omega
    have HLL:Hid (k<s.data.toList.length):=by unfold Hid;rw[HL.o];exact hlt
    have hat:=Db s k hlt;rw[t1] at HM;cases htk:Pm.blank s[k]
    . have HR:Hid (i+Pm.run Pm.blank s.data.toList i=k):=by
       unfold Hid;rw[HW.o];rw[Pm.Ko HLL.o (by rw[hat];exact htk)];rfl
      have HK:=H9 (fun W=>Il s[k] W);rw[htk] at HK;clear hat htk HW;have e1:(i:Int)<=k:=by omega
      have e2:(k:Int)<=s.size:=by omega
      go_wp2;go_quiet ((first | (go_at_call 248;exact Calls.quiet_of (HM.o _)) | (go_at_call 278;exact Calls.quiet_of_same (HK.o _))))
      go_wp2;go_quiet (fail)
      go_wp2;go_ret;exact⟨qE (by rw[HR.o]),by rw[HR.o];exact H.o,(HT.o.trans (Turns.drewN (only g) _ _) (fun _ h _=>h)).trans (Turns.drewN (only g) _ _) (fun _ h _=>h)⟩
    . have HR:Hid (i+Pm.run Pm.blank s.data.toList i=(k+1)+Pm.run Pm.blank s.data.toList (k+1)):=by
       unfold Hid;rw[HW.o];rw[Pm.Kn HLL.o (by rw[hat];exact htk)];omega
      have HK:=H9 (fun W=>Il s[k] W);rw[htk] at HK;clear hat htk HW;go_wp2;go_quiet ((first | (go_at_call 248;exact Calls.quiet_of (HM.o _)) | (go_at_call 278;exact Calls.quiet_of_same (HK.o _))))
      go_wp2;have HN:=H9 ((H.o.drewN nq).go (k+1) ((k:Int)+1) (by omega));go_roundw
      case rel=>exact⟨k+1,by omega,by omega,HN.o,HT.o.trans (Turns.go _ _) (fun _ h _=>h),HR.o⟩
      case measure=>rw[HN.o.yj,HA.o];omega
  . obtain rfl:k=s.size:=by omega
    have t1:decide (s.size<s.size)=false:=by rw[bQ];omega
    have HR:Hid (i+Pm.run Pm.blank s.data.toList i=s.size):=by
     unfold Hid;rw[HW.o];rw[Pm.run_end _ (by rw[HL.o];exact aM _)];rfl
    rw[t1] at HM;clear HW;have e1:(i:Int)<=s.size:=by omega
    go_wp2;go_quiet ((go_at_call 248;exact Calls.quiet_of (HM.o _)))
    go_wp2;go_quiet (fail)
    go_wp2;go_ret;exact⟨qE (by rw[HR.o]),by rw[HR.o];exact H.o,(HT.o.trans (Turns.drewN (only g) _ _) (fun _ h _=>h)).trans (Turns.drewN (only g) _ _) (fun _ h _=>h)⟩
theorem sQ (s:ay)(i g:Nat)(w:World)(h:je w g s i)(hs:s.size<=1000000)(hi:i<=s.size):
 Calls prog 246 #[.pointer (some ⟨g,0,none⟩)] w fun e w'=>e=.returned (.tuple #[])∧je w' g s (Pm.blanks s.data.toList i)∧Turns (only g) w w':=by
 have HR:=H9 (Sc s i g w h hs hi);go_enter func246,ntmps246;go_wp2_with fail
 refine HR.o.mono ?_;rintro e w1 ⟨rfl,h1,h2⟩;go_wp2;go_end0
 exact⟨rfl,h1,h2⟩
theorem xM (s:ay)(i g:Nat)(w:World)(h:je w g s i)(hs:s.size<=1000000)(hi:i<=s.size)(hn:Pm.word s.data.toList i≠0):
 Calls prog 279 #[.pointer (some ⟨g,0,none⟩)] w fun e w'=>e=.returned (.string (s.extract i (i+Pm.word s.data.toList i)))∧je w' g s (i+Pm.word s.data.toList i)∧Turns (only g) w w':=by
 have HR:=H9 (QE s i g w h hs hi);have hw:=Pm.zy s.data.toList i (by rw[aO];exact hi);rw[aO] at hw;have hw':i+Pm.word s.data.toList i<=s.size:=hw;have hne:=Ch.lV (s.extract i (i+Pm.word s.data.toList i)) (by simp;omega);have hne2:((s.extract i (i+Pm.word s.data.toList i)).toList==[])=false:=by
  cases hx:(s.extract i (i+Pm.word s.data.toList i)).toList with
  | nil=>rw[hx] at hne;cases hne
  | cons _ _=>rfl
 clear hw hw' hn;generalize Pm.word s.data.toList i=n at *;generalize s.extract i (i+n)=x at *;go_enter func279,ntmps279;go_wp2_with fail
 refine HR.o.mono ?_;rintro e w1 ⟨rfl,h1,h2⟩;go_wp2;go_ret;exact⟨rfl,h1,h2⟩
theorem zW (s:ay)(i g:Nat)(w:World)(h:je w g s i)(hs:s.size<=1000000)(hi:i<=s.size)(hn:Pm.word s.data.toList i=0):
 Calls prog 279 #[.pointer (some ⟨g,0,none⟩)] w fun e w'=>e=gave 5∧Turns (only g) w w':=by
 have HR:=H9 (QE s i g w h hs hi);have hx:s.extract i (i+Pm.word s.data.toList i)=⟨#[]⟩:=Ch.empty_eq _ (by rw[hn];simp);rw[hx] at HR;clear hx hn;go_enter func279,ntmps279;go_wp2_with fail
 refine HR.o.mono ?_;rintro e w1 ⟨rfl,h1,h2⟩;go_wp2;exact⟨rfl,rfl,h2⟩
theorem Im (s:ay)(i g:Nat)(w:World)(h:je w g s i)(hs:s.size<=1000000)(hi:i<s.size):
 Calls prog 299 #[.pointer (some ⟨g,0,none⟩)] w fun e w'=>e=.returned (.int .u8 (s[i].toNat:Int))∧je w' g s (i+1)∧Turns (only g) w w':=by
 have HM:=H9 (rW s i g w h);have t1:decide (i<s.size)=true:=by rw[bR];omega
 rw[t1] at HM;have H:=H9 h;clear h t1;go_enter func299,ntmps299;go_wp2_with fail
 refine HM.o.mono ?_;rintro e w1 ⟨rfl,n,hw⟩;have H1:Hid (je w1 g s i):=by rw[hw];exact H.o.drewN n
 have T1:Hid (Turns (only g) w w1):=by rw[hw];exact Turns.drewN _ _ _
 clear hw H HM;obtain⟨c0,c1,f1⟩:=H1.o.cells;have H2:=H9 (H1.o.go (i+1) ((i:Int)+1) (by omega));have T2:Hid (Turns (only g) w (w1.setCell ⟨g,1,none⟩ (.int .i64 ((i:Int)+1)))):=T1.out.trans (Turns.setCell (only g) _ _ _ rfl) (fun _ h _=>h);have d0:(w1.setCell ⟨g,1,none⟩ (.int .i64 ((i:Int)+1))).cell? ⟨g,0,none⟩=some (.string s):=H2.o.cells.1;have e1:(i:Int)+1-1=i:=by omega
 have e2:(i:Int)<s.size:=by omega
 go_wp2;go_quiet (fail)
 go_wp2;go_ret;exact⟨rfl,H2.o.drewN nq,T2.out.trans (Turns.drewN (only g) _ _) (fun _ h _=>h)⟩
theorem Lm (s:ay)(i g:Nat)(w:World)(h:je w g s i)(hi:¬i<s.size):
 Calls prog 299 #[.pointer (some ⟨g,0,none⟩)] w fun e w'=>e=gave 14∧Turns (only g) w w':=by
 have HM:=H9 (rW s i g w h);have t1:decide (i<s.size)=false:=by rw[bQ];omega
 rw[t1] at HM;clear h t1 hi;go_enter func299,ntmps299;go_wp2_with fail
 refine HM.o.mono ?_;rintro e w1 ⟨rfl,n,hw⟩;have T1:Hid (Turns (only g) w w1):=by rw[hw];exact Turns.drewN _ _ _
 clear hw;go_wp2;exact⟨rfl,rfl,T1.out⟩
def wN (m:Option (av×av))(w:World)(g:Nat)(s:ay)(e:Ending)(w':World):Prop :=
 Turns (only g) w w'∧match m with
  | none=>e=gave 14
  | some x=>e=.returned (.string ⟨x.1.toArray⟩)∧∃j,j<=s.size∧je w' g s j∧s.data.toList.drop j=x.2
theorem wN.no {m:Option (av×av)}{w:World}{g:Nat}{s:ay}{w':World}(hm:m=none)(ht:Turns (only g) w w'):wN m w g s (gave 14) w':=by
 subst hm;exact⟨ht,rfl⟩
theorem wN.yes {m:Option (av×av)}{w:World}{g:Nat}{s:ay}{v r:av}{e:Ending}{w':World}{j:Nat}(hm:m=some (v,r))(he:e=.returned (.string ⟨v.toArray⟩))(hj:j<=s.size)(hr:je w' g s j)(hd:s.data.toList.drop j=r)(ht:Turns (only g) w w'):wN m w g s e w':=by
 subst hm;exact⟨ht,he,j,hj,hr,hd⟩
structure Ew (w:World)(g:Nat)(s:ay)(k:Nat)(acc:av)(ao:ak)(cap:Nat)(wr:World):Prop where
 rd:je wr g s k
 own:iF wr w.heap.size 5 ao cap acc
 turns:Turns (only g) w wr
 lt:g<w.heap.size
section
variable {w wr w1 w3:World} {g k k':Nat} {s:ay} {acc acc':av} {ao gW:ak} {cap cap':Nat}
theorem Ew.feed (h:Ew w g s k acc ao cap wr)(h1:je w1 g s k')(h2:Turns (only g) wr w1):Ew w g s k' acc ao cap w1 :=
 ⟨h1,h.own.turns h2 (fun a e e2=>by have:=(h.own.block a e).1;have:=h.lt;unfold only at e2;omega),h.turns.trans h2 (fun _ h _=>h),h.lt⟩
theorem Ew.push (h:Ew w g s k acc ao cap wr)(ob:Obj)(hO:iF w3 w.heap.size 5 gW cap' acc')(hG:(wr.alloc ob).grownBy w3 (gL ao)):Ew w g s k acc' gW cap' w3:=by
 have hS:∀i,gL ao=some i->w.heap.size<=i:=by
  intro i e;cases ao with
  | none=>simp[gL] at e
  | some a=>simp only[gL,bU] at e;have:=(h.own.block a rfl).1;omega
 have hT:Turns (fun i=>w.heap.size<=i) wr w3:=(Turns.iZ (gB wr ob none) (fun k e=>by cases e)).trans (Turns.iZ hG hS) (fun _ h _=>h);exact⟨h.rd.turns hT (by have:=h.lt;omega),hO,h.turns.trans hT (fun i hi hlt=>by omega),h.lt⟩
end
theorem iH.QF (W:World)(c:UInt8)(t:Nat)(fr:Nat×Nat){k:Nat}(hk:W.heap.size=k):iH (W.alloc (.cells #[.int .u8 (c.toNat:Int)] t fr)) (Option.some ⟨k,0,Option.none⟩) 1 [c]:=hk▸iH.one W c t fr
theorem N7 (s:ay)(i g:Nat)(w:World)(h:je w g s i)(hs:s.size<=1000000)(hi:i<=s.size):
 Calls prog 281 #[.pointer (some ⟨g,0,none⟩)] w fun e w'=>wN (Pm.quo [] (s.data.toList.drop i)) w g s e w':=by
 have hl:s.data.toList.length=s.size:=by rw[aO];rfl
 have HL:=H9 hl;have H:=H9 h;obtain⟨i0,hi0,hz0,hz1,hz2⟩:=info_parts jO;have Hi:=H9 hi0;have kK:=H9 hz0;have kH:=H9 hz1;have kL:=H9 hz2
 clear h hl hi0 hz0 hz1 hz2;go_enter func281,ntmps281;go_wp2;go_loopw [3] (fun t wr=>∃(k:Nat) (acc:av) (ao:ak) (cap:Nat),k<=s.size∧acc.length<=k∧t=.slice ao acc.length cap∧Ew w g s k acc ao cap wr∧Pm.quo [] (s.data.toList.drop i)=Pm.quo acc (s.data.toList.drop k)) (fun _ wr=>s.size-yj wr g)
 case atStart=>exact⟨i,[],none,0,hi,aA _,rfl,⟨H.o,iF.nil _ _ _,Turns.refl _ _,H.o.lt⟩,rfl⟩
 case round =>
  clear H;obtain⟨k,acc,ao,cap,hk,hal,rfl,hA,hq⟩:=hrel;have HA:=H9 hA;have HAt:=H9 hA.rd.yj;have HQ:=H9 hq;clear hA hq;by_cases hlt:k<s.size
  . have HD:Hid (s.data.toList.drop k=s[k]::s.data.toList.drop (k+1)):=by
     unfold Hid;rw[aD (by rw[HL.o];exact hlt),Db s k hlt]
    go_wp2_with fail
    refine(Im s k g _ HA.o.rd hs hlt).mono ?_;rintro e w1 ⟨rfl,h1,h2⟩;have HA1:=H9 (HA.o.feed h1 h2);clear h1 h2 HA;generalize s[k]=c at *;by_cases FR:c=34
    . subst FR;have HR:Hid (Pm.quo [] (s.data.toList.drop i)=some (acc,s.data.toList.drop (k+1))):=by unfold Hid;rw[HQ.o,HD.o,Pm.Qd]
      have qx:=HA1.o.own.xg.str (P:=prog) 31 9 5 underlying31 underlying5 underlying9;clear HQ HD;go_wp2;go_ret;exact wN.yes HR.o rfl (by omega) HA1.o.rd rfl HA1.o.turns
    . have t34:((c.toNat:Int)==34)=false:=kZ FR;by_cases h92:c=92
      . subst h92;clear t34 FR;by_cases hlt2:k+1<s.size
        . have HD2:Hid (s.data.toList.drop (k+1)=s[k+1]::s.data.toList.drop (k+2)):=by
           unfold Hid;rw[aD (by rw[HL.o];exact hlt2),Db s (k+1) hlt2]
          have HR:Hid (Pm.quo [] (s.data.toList.drop i)=Pm.quo (acc++[s[k+1]]) (s.data.toList.drop (k+2))):=by
           unfold Hid;rw[HQ.o,HD.o,HD2.o,Pm.Kr]
          clear HQ HD HD2;go_wp2_with fail
          refine(Im s (k+1) g _ HA1.o.rd hs hlt2).mono ?_;rintro e w2 ⟨rfl,h1,h2⟩;have HA2:=H9 (HA1.o.feed h1 h2);clear h1 h2 HA1;generalize s[k+1]=d at *;go_wp2_with (at_builtin;refine iJ rfl (.tmp 15) (.tmp 17) 31 rfl w.heap.size 5 i0 underlying31 Hi.o kK.o kH.o kL.o (l:=acc) (l2:=[d]) rfl rfl (HA2.o.own.alloc _) rfl rfl (iH.QF _ _ _ _ (by simp)) (by simp;omega) (by have:=HA2.o.turns.size;simp;omega) ?_;intro jQ gX w3 hO3 hG3 kC;have Jh:=H9 (HA2.o.push _ hO3 hG3);clear hO3 hG3 kC)
          go_roundw
          case rel=>exact⟨k+2,acc++[d],jQ,gX,by omega,by rw[aW];simp;omega,by rw[aW];rfl,Jh.o,HR.o⟩
          case measure=>rw[Jh.o.rd.yj,HAt.o];omega
        . have HR:Hid (Pm.quo [] (s.data.toList.drop i)=none):=by
           unfold Hid;rw[HQ.o,HD.o,aK (show s.data.toList.length<=k+1 by rw[HL.o];omega),Pm.zx]
          clear HQ HD;go_wp2_with fail
          refine(Lm s (k+1) g _ HA1.o.rd hlt2).mono ?_;rintro e w2 ⟨he,h2⟩;unfold gave at he;subst he;have HT:=H9 (HA1.o.turns.trans h2 (fun _ h _=>h));clear h2;go_wp2;exact⟨rfl,wN.no HR.o HT.o⟩
      . have t92:((c.toNat:Int)==92)=false:=kZ h92;have HR:Hid (Pm.quo [] (s.data.toList.drop i)=Pm.quo (acc++[c]) (s.data.toList.drop (k+1))):=by
         unfold Hid;rw[HQ.o,HD.o,Pm.Kt _ _ _ FR h92]
        clear HQ HD FR h92;go_wp2_with (at_builtin;refine iJ rfl (.tmp 15) (.tmp 17) 31 rfl w.heap.size 5 i0 underlying31 Hi.o kK.o kH.o kL.o (l:=acc) (l2:=[c]) rfl rfl (HA1.o.own.alloc _) rfl rfl (iH.QF _ _ _ _ (by simp)) (by simp;omega) (by have:=HA1.o.turns.size;simp;omega) ?_;intro jQ gX w3 hO3 hG3 kC;have Jh:=H9 (HA1.o.push _ hO3 hG3);clear hO3 hG3 kC)
        go_roundw
        case rel=>exact⟨k+1,acc++[c],jQ,gX,by omega,by rw[aW];simp;omega,by rw[aW];rfl,Jh.o,HR.o⟩
        case measure=>rw[Jh.o.rd.yj,HAt.o];omega
  . have HR:Hid (Pm.quo [] (s.data.toList.drop i)=none):=by
     unfold Hid;rw[HQ.o,aK (show s.data.toList.length<=k by rw[HL.o];omega),Pm.I8]
    clear HQ;go_wp2_with fail
    refine(Lm s k g _ HA.o.rd hlt).mono ?_;rintro e w2 ⟨he,h2⟩;unfold gave at he;subst he;have HT:=H9 (HA.o.turns.trans h2 (fun _ h _=>h));clear h2;go_wp2;exact⟨rfl,wN.no HR.o HT.o⟩
structure jT (w:World)(S:Nat->Prop)(g:Nat)(ao:ak)(cap:Nat)(bo:ak)(bc:Nat)(t:Fm.Td):Prop where
 row:w.heap[g]? = some (.cells #[.slice ao t.es.length cap,.slice bo t.bs.length bc] 268 (0,0))
 all:pG w (fun k=>(S k∧k≠g)∧gL bo≠some k) 72 ao cap t.es
 own:iF w 0 5 bo bc t.bs
 mem:∀a,bo=some a->S a.block∧a.block≠g
 me:S g
section
variable {w w':World} {S S':Nat->Prop} {g:Nat} {ao bo:ak} {cap bc:Nat} {t:Fm.Td}
theorem jT.lt (h:jT w S g ao cap bo bc t):g<w.heap.size:=(aL.1 h.row).1
theorem jT.c0 (h:jT w S g ao cap bo bc t):w.cell? ⟨g,0,none⟩=some (.slice ao t.es.length cap):=fK w g 0 _ _ _ h.row
theorem jT.c1 (h:jT w S g ao cap bo bc t):w.cell? ⟨g,1,none⟩=some (.slice bo t.bs.length bc):=fK w g 1 _ _ _ h.row
theorem jT.turns (h:jT w S g ao cap bo bc t)(ht:Turns S' w w')(hs:∀k,S k->¬S' k):jT w' S g ao cap bo bc t :=
 ⟨ht.row h.row (hs g h.me),h.all.turns ht (fun k e=>hs k e.1.1),h.own.turns ht (fun a e=>hs _ (h.mem a e).1),h.mem,h.me⟩
theorem jT.mono (h:jT w S g ao cap bo bc t)(hs:∀k,k<w.heap.size->S k->S' k):jT w S' g ao cap bo bc t :=
 ⟨h.row,h.all.mono (fun k hk e=>⟨⟨hs k hk e.1.1,e.1.2⟩,e.2⟩),h.own,fun a e=>⟨hs _ (h.own.block a e).2 (h.mem a e).1,(h.mem a e).2⟩,hs g h.lt h.me⟩
theorem jT.stay (h:jT w S g ao cap bo bc t)(hb:aj w w'):jT w' S g ao cap bo bc t:=h.turns (Turns.of_below (S:=fun _=>False) hb) (fun _ _ e=>e)
end
theorem jT.made (w:World):jT (w.alloc (.cells #[.slice none 0 0,.slice none 0 0] 268)) (fun k=>w.heap.size<=k) w.heap.size none 0 none 0 Fm.FV :=
 ⟨fI w _,pG.nil _ _ _,iF.nil _ _ _,fun a e=>(by cases e),aM _⟩
def nu (w:World)(S:Nat->Prop)(g:Nat)(t:Fm.Td):Prop:=∃ao cap bo bc,jT w S g ao cap bo bc t
section
variable {w w':World} {S S':Nat->Prop} {g:Nat} {t:Fm.Td}
theorem nu.turns (h:nu w S g t)(ht:Turns S' w w')(hs:∀k,S k->¬S' k):nu w' S g t:=by obtain⟨a,b,c,d,h⟩:=h;exact⟨a,b,c,d,h.turns ht hs⟩
theorem nu.mono (h:nu w S g t)(hs:∀k,k<w.heap.size->S k->S' k):nu w S' g t:=by obtain⟨a,b,c,d,h⟩:=h;exact⟨a,b,c,d,h.mono hs⟩
theorem nu.stay (h:nu w S g t)(hb:aj w w'):nu w' S g t:=by obtain⟨a,b,c,d,h⟩:=h;exact⟨a,b,c,d,h.stay hb⟩
end
theorem pG.push {W:World}{S:Nat->Prop}{tE:Nat}{ao:ak}{cap:Nat}{es:List iN}(h:pG W S tE ao cap es)(ob:Obj):∃ps:List (iN×EvS),gV (W.alloc ob) 0 tE 12 ao cap es.length (iX ps) ∧
 ∀gW cap' w' (e:iN) s (N:Nat->Prop) ys,e.cells s=ys->xZ W N e s->s.po=none∧s.jA=0->(∀k,S k->¬N k)->gV w' 0 tE 12 gW cap' (es.length+1) (iX ps++ys)->(W.alloc ob).grownBy w' (gL ao)->(gL gW=gL ao∨gL gW=some (W.alloc ob).heap.size)->pG w' (fun k=>S k∨N k∨W.heap.size<=k) tE gW cap' (es++[e])∧Turns S W w':=by
 obtain⟨ps,hes,hO,hm,hI,hX⟩:=h;have hb:aj W (W.alloc ob):=(fJ _ _).alloc (aM _) _;have ht:=Turns.of_below (S:=fun _=>False) hb;refine⟨ps,hO.stay hb,fun gW cap' w' e s N ys hy hE hpn hN Ao hG hat=>?_⟩;subst hy;have e1:iX [(e,s)]=e.cells s:=by simp[iX]
 rw[<-e1] at Ao;have:=pG.more (N:=N) hm (fun p hp=>(hI p hp).turns ht (fun _ _ e=>e)) (ps2:=[(e,s)]) (fun p hp=>by rw[bC.1 hp];exact hE.turns ht (fun _ _ e=>e)) hN Ao (by rw[<-hes,aF];rfl) hG hat hX (fun p hp=>by rw[bC.1 hp];exact hpn);refine⟨?_,?_⟩
 . rw[hes] at this;refine this.mono (fun k hk e=>?_);rcases e with e | e | e
   . exact Or.inl e
   . exact Or.inr (Or.inl e)
   . rw[fZ] at e;exact Or.inr (Or.inr (by omega))
 . refine(Turns.of_below (S:=S) hb).trans (Turns.iZ (S:=S) hG (fun k e=>?_)) (fun _ e _=>e);cases ao with
   | none=>cases e
   | some a=>injection e with e;subst e;exact hm a rfl
theorem Ah:(prog.info? 72).map (fun i=>(i.zero,i.size,i.bytes))=some (some (.agg #[.int .i64 0,.string ⟨#[]⟩,.string ⟨#[]⟩,.int .i64 0,.slice none 0 0,.int .i64 0,.slice none 0 0,.string ⟨#[]⟩,.string ⟨#[]⟩,.string ⟨#[]⟩,.slice none 0 0,.int .i64 0]),12,184):=by kernel_rfl
structure JO (w:World)(S N:Nat->Prop)(e:iN)(s:EvS):Prop where
 fields:nE w (fun k=>N k∧lastB e s≠some k) s.fo s.gM e.fields.length (gU e.fields)
 iw:ko w (fun k=>N k∧lastB e s≠some k) s.po s.jA e.iw
 bytes:gZ w N 5 s.bo s.gK e.bytes
 apart:∀k,S k->¬N k
theorem JO.stay {w w':World}{S N:Nat->Prop}{e:iN}{s:EvS}(h:JO w S N e s)(hb:aj w w'):JO w' S N e s :=
 have ht:=Turns.of_below (S:=fun _=>False) hb
 ⟨h.fields.turns ht (fun _ _ k=>k),h.iw.turns ht (fun _ _ k=>k),h.bytes.turns ht (fun _ _ k=>k),h.apart⟩
inductive vB (w:World)(S N:Nat->Prop)(es:List iN)(e:iN)(v:Ending)(w':World):Prop
 | mk (ao:ak) (cap:Nat) (hv:v=.returned (.slice ao (es.length+1) cap)) (hO:jR w' (fun k=>S k∨N k∨w.heap.size<=k) 72 5 ao cap (es++[e])) (hT:Turns S w w')
structure QY (w:World)(S N:Nat->Prop)(ao:ak)(ps:List (iN×EvS))(es:List iN)(e:iN)(s:EvS):Prop where
 es:ps.map (·.1)=es
 mem:∀a,ao=some a->S a.block
 ins:∀p∈ps,xZ w (fun k=>S k∧gL ao≠some k) p.1 p.2
 new:JO w S N e s
theorem vB.of {w w3:World}{S N:Nat->Prop}{ao jQ:ak}{gX n:Nat}{ps:List (iN×EvS)}{es:List iN}{e:iN}{s:EvS}{x y:Obj}
 (h:QY w S N ao ps es e s) (hO:gV w3 0 72 12 jQ gX (n+1) (iX ps++e.cells s)) (hG:((w.alloc x).alloc y).grownBy w3 (gL ao)) (hat:gL jQ=gL ao∨gL jQ=some ((w.alloc x).alloc y).heap.size) (hn:n=es.length:=by rfl) :
 vB w S N es e (.returned (.slice jQ (n+1) gX)) w3:=by
 subst hn;have hB:aj w ((w.alloc x).alloc y):=((fJ _ _).alloc (aM _) _).alloc (by simp) _;have hT:=Turns.of_below (S:=fun _=>False) hB;have hl:es.length=ps.length:=by rw[<-h.es];simp
 have hin:∀p∈ps,xZ ((w.alloc x).alloc y) (fun k=>S k∧gL ao≠some k) p.1 p.2:=fun p hp=>(h.ins p hp).turns hT (fun _ _ k=>k);have hnew:=h.new.stay hB;have Ao:gV w3 0 72 12 jQ gX (ps.length+1) (iX (ps++[(e,s)])):=by
  rw[mY,<-hl];have e1:iX [(e,s)]=e.cells s:=by simp[iX]
  rw[e1];exact hO
 have hM:=jR.more (tb:=5) h.mem hin hnew.fields hnew.iw hnew.bytes hnew.apart Ao rfl hG hat;refine .mk jQ gX rfl ?_ ?_
 . rw[<-h.es];refine hM.mono (fun k _ hk=>?_);rcases hk with hk | hk | hk
   . exact Or.inl hk
   . exact Or.inr (Or.inl hk)
   . refine Or.inr (Or.inr ?_);rw[hk];exact hB.size
 . refine(Turns.of_below (S:=S) hB).trans (Turns.iZ (S:=S) hG (fun k hk=>?_)) (fun _ k _=>k);cases ao with
   | none=>cases hk
   | some a=>injection hk with hk;subst hk;exact h.mem a rfl
theorem TW (w:World)(S N:Nat->Prop)(ao:ak)(cap:Nat)(es:List iN)(e:iN)(s:EvS)(h:jR w S 72 5 ao cap es)(hE:JO w S N e s)(hl:es.length<=1000000)(hk:e.kind≠2):
 Calls prog 105 #[.slice ao es.length cap,.agg #[.int .i64 e.kind,.string e.method,.string e.target,.int .i64 e.minor,.slice s.fo e.fields.length s.gM,.int .i64 e.length,.slice s.bo e.bytes.length s.gK,.string e.kW,.string e.kJ,.string e.ptype,.slice s.po e.iw.length s.jA,.int .i64 e.code]] w fun v w'=>vB w S N es e v w':=by
 have k2:(e.kind==2)=false:=aS.2 hk;obtain⟨ps,hes,hO,hA,hI⟩:=h.own;have HP:Hid (QY w S N ao ps es e s):=⟨hes,hA,hI,hE⟩;have HO:=H9 hO;obtain⟨i0,hi0,hz0,hz1,hz2⟩:=info_parts Ah;have Hi:=H9 hi0;have kK:=H9 hz0;have kH:=H9 hz1;have kL:=H9 hz2
 clear hi0 hz0 hz1 hz2 h hE hes hO hA hI hk;go_enter func105,ntmps105;go_wp2_with (at_builtin;go_loud (refine gT rfl (.tmp 37) (.tmp 39) 58 rfl 0 72 i0 (.agg #[.int .i64 0,.string ⟨#[]⟩,.string ⟨#[]⟩,.int .i64 0,.slice none 0 0,.int .i64 0,.slice none 0 0,.string ⟨#[]⟩,.string ⟨#[]⟩,.string ⟨#[]⟩,.slice none 0 0,.int .i64 0]) 12 184 underlying58 Hi.o kK.o kH.o kL.o rfl (by decide) rfl ((HO.o.alloc _).alloc _) rfl (iN.made e s _ _ _ (by simp)) rfl (cells_one e s) (by omega) (by omega) (aA _) ?_;intro jQ gX w3 hO3 hG3 kC))
 go_ret;exact vB.of HP.o hO3 hG3 kC
theorem TY (w:World)(S N:Nat->Prop)(e:iN)(s:EvS)(hE:JO w S N e s)(hk:e.kind=2):
 Calls prog 105 #[.slice none 0 0,.agg #[.int .i64 e.kind,.string e.method,.string e.target,.int .i64 e.minor,.slice s.fo e.fields.length s.gM,.int .i64 e.length,.slice s.bo e.bytes.length s.gK,.string e.kW,.string e.kJ,.string e.ptype,.slice s.po e.iw.length s.jA,.int .i64 e.code]] w fun v w'=>vB w S N [] e v w':=by
 have k2:(e.kind==2)=true:=aT.2 hk;have HP:Hid (QY w S N none [] [] e s):=⟨rfl,(fun a k=>by cases k),(fun p hp=>by cases hp),hE⟩;have HO:=H9 (gV.nil w 0 72 12);obtain⟨i0,hi0,hz0,hz1,hz2⟩:=info_parts Ah;have Hi:=H9 hi0;have kK:=H9 hz0;have kH:=H9 hz1;have kL:=H9 hz2
 clear hi0 hz0 hz1 hz2 hE hk;go_enter func105,ntmps105;go_wp2_with (at_builtin;go_loud (refine gT rfl (.tmp 37) (.tmp 39) 58 rfl 0 72 i0 (.agg #[.int .i64 0,.string ⟨#[]⟩,.string ⟨#[]⟩,.int .i64 0,.slice none 0 0,.int .i64 0,.slice none 0 0,.string ⟨#[]⟩,.string ⟨#[]⟩,.string ⟨#[]⟩,.slice none 0 0,.int .i64 0]) 12 184 underlying58 Hi.o kK.o kH.o kL.o rfl (by decide) rfl ((HO.o.alloc _).alloc _) rfl (iN.made e s _ _ _ (by simp)) rfl (cells_one e s) (by omega) (by omega) (aA _) ?_;intro jQ gX w3 hO3 hG3 kC))
 go_ret;exact vB.of (n:=0) HP.o hO3 hG3 kC
theorem Pj (w:World)(S N:Nat->Prop)(ao:ak)(cap m:Nat)(es:List iN)(e:iN)(s:EvS)(h:jR w S 72 5 ao cap es)(hE:JO w S N e s)(hm:es.length=m+1)(hl:m<=1000000)(hk:e.kind=2)(hx:∀x,es.getLast? = some x->x.kind≠2):
 Calls prog 105 #[.slice ao (m+1) cap,.agg #[.int .i64 e.kind,.string e.method,.string e.target,.int .i64 e.minor,.slice s.fo e.fields.length s.gM,.int .i64 e.length,.slice s.bo e.bytes.length s.gK,.string e.kW,.string e.kJ,.string e.ptype,.slice s.po e.iw.length s.jA,.int .i64 e.code]] w fun v w'=>vB w S N es e v w':=by
 have k2:(e.kind==2)=true:=aT.2 hk;obtain⟨ps,hes,hO,hA,hI⟩:=h.own;have hlen:ps.length=m+1:=by rw[<-hm,<-hes];simp
 have hv:=hO.nQ;obtain⟨b,o,hao,hc⟩:=hv.lit (by rw[mX];omega);have hcell:w.cell? ⟨b,o+m*12,none⟩=some (.int .i64 ps[m].1.kind):=hc (m*12) _ (by
  have:=rC ps m (by omega) 0 (by omega);rw[bK] at this;rw[this];rfl)
 have hkx:ps[m].1.kind≠2:=hx _ (by
  have hq:ps[ps.length-1]? = some ps[m]:=by rw[show ps.length-1=m by omega,dD (by omega)]
  rw[<-hes,List.getLast?_map,List.getLast?_eq_getElem?,hq];rfl)
 generalize ps[m].1.kind=kx at hcell hkx;have kx2:(kx==2)=false:=aS.2 hkx;have c0:(w.alloc (.cells #[.int .i64 e.kind,.string e.method,.string e.target,.int .i64 e.minor,.slice s.fo e.fields.length s.gM,.int .i64 e.length,.slice s.bo e.bytes.length s.gK,.string e.kW,.string e.kJ,.string e.ptype,.slice s.po e.iw.length s.jA,.int .i64 e.code] 72)).cell? ⟨b,o+m*12,none⟩=some (.int .i64 kx):=((fJ _ w).alloc (aM _) _).cell (gq w _ hcell)▸hcell;have hcap:m+1<=cap:=by have:=hv.1;rwa[hm] at this
 rw[hm] at hO;subst hao;have HP:Hid (QY w S N (some ⟨b,o,none⟩) ps es e s):=⟨hes,hA,hI,hE⟩;have HO:=H9 hO;have HM:=H9 hm
 obtain⟨i0,hi0,hz0,hz1,hz2⟩:=info_parts Ah;have Hi:=H9 hi0;have kK:=H9 hz0;have kH:=H9 hz1;have kL:=H9 hz2
 clear hi0 hz0 hz1 hz2 h hE hes hO hA hI hk hv hc hcell hkx hx hm hlen;go_enter func105,ntmps105;go_wp2_with (at_builtin;go_loud (refine gT rfl (.tmp 37) (.tmp 39) 58 rfl 0 72 i0 (.agg #[.int .i64 0,.string ⟨#[]⟩,.string ⟨#[]⟩,.int .i64 0,.slice none 0 0,.int .i64 0,.slice none 0 0,.string ⟨#[]⟩,.string ⟨#[]⟩,.string ⟨#[]⟩,.slice none 0 0,.int .i64 0]) 12 184 underlying58 Hi.o kK.o kH.o kL.o rfl (by decide) rfl ((HO.o.alloc _).alloc _) rfl (iN.made e s _ _ _ (by simp)) rfl (cells_one e s) (by omega) (by omega) (aA _) ?_;intro jQ gX w3 hO3 hG3 kC))
 go_ret;exact vB.of (n:=m+1) HP.o hO3 hG3 kC HM.o.symm
theorem Fz (w:World)(S:Nat->Prop)(g:Nat)(s:Ln.St)(h:iA w S g s):
 Calls prog 80 #[.pointer (some ⟨g,0,none⟩)] w fun e w'=>e=.returned (.bool (Ln.begun s))∧w'=w:=by
 obtain⟨ao,cap,hg,_⟩:=h;have c0:w.cell? ⟨g,0,none⟩=some (.slice ao s.line.length cap):=fK w g 0 _ _ _ hg;have c1:w.cell? ⟨g,1,none⟩=some (.bool s.ending):=fK w g 1 _ _ _ hg;clear hg;unfold Ln.begun;generalize s.ending=b at c1 ⊢;cases b
 . go_enter func80,ntmps80;go_wp2;go_ret;exact⟨iB (by simp),rfl⟩
 . go_enter func80,ntmps80;go_wp2;go_ret;exact⟨iB (by simp),rfl⟩
theorem pW.cap_ {w:World}{ao:ak}{cap:Nat}{l:List Sp.Up}(h:pW w ao cap l):l.length<=cap:=by
 obtain⟨us,_,hv,_⟩:=h;exact hv.1
theorem MN (l:List Sp.Up)(a1 a2:ak)(c1 c2:Nat)(w:World)(h1:pW w a1 c1 l)(h2:pW w a2 c2 l)(hN:l.length<=1000000):
 Calls prog 17 #[.slice a1 l.length c1,.slice a2 l.length c2] w fun e w'=>e=.returned (.bool true)∧∃q,w'=w.drewN q:=by
 have H1:=H9 h1;have H2:=H9 h2
 have hc1:=h1.cap_;have hc2:=h2.cap_
 clear h1 h2;go_enter func17,ntmps17;go_wp2;go_loopw [5] (fun t wr=>∃k q:Nat,k<=l.length∧t=.int .i64 k∧wr=w.drewN q) (fun t _=>l.length-(intOf t).toNat)
 case atStart=>exact⟨0,0,aA _,rfl,rfl⟩
 case round =>
  obtain⟨k,q,hk,rfl,rfl⟩:=hrel;by_cases hlt:k<l.length
  . have e1:(k:Int)<l.length:=by omega
    obtain⟨b1,o1,s1,rfl,x0,x1,x2,x3,x4,x5⟩:=H1.o.at_ k hlt;obtain⟨b2,o2,s2,rfl,y0,y1,y2,y3,y4,y5⟩:=H2.o.at_ k hlt;have ZA:Hid (∀n,Calls prog 15 #[.slice s1.bo l[k].bytes.length s1.gK,.slice s2.bo l[k].bytes.length s2.gK] (w.drewN n) fun e w'=>e=.returned (.bool true)∧w'=w.drewN n):=fun n=>by
     have:=yI (w.drewN n) s1.bo s2.bo s1.gK s2.gK l[k].bytes.length l[k].bytes.length l[k].bytes l[k].bytes rfl rfl (x5.drewN n) (y5.drewN n);rw[aI rfl] at this;exact this
    have t1:(l[k].note.toList==l[k].note.toList)=true:=fD _;clear x5 y5;generalize l[k]=p at *;generalize p.bytes.length=pn at *;go_wp2;go_quiet ((go_at_call 15;exact(ZA.o _).mono (fun e w2 hw=>⟨hw.1,_,hw.2⟩)))
    go_wp2;go_roundw
    case rel=>exact⟨k+1,q+nq,by omega,by go_num,by simp⟩
    case measure=>simp[intOf];omega
  . obtain rfl:k=l.length:=by omega
    go_wp2;go_ret;exact⟨rfl,q,rfl⟩
end Go.Proofs.YtjmndjmhjleabaaGreatDoor