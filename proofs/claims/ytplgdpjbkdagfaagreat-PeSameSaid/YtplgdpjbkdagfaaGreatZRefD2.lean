import Derived.Test.YtplgdpjbkdagfaaGreatZExpD
namespace Go.Proofs.YtplgdpjbkdagfaaGreat
open Lib renaming hid→Zg
set_option maxRecDepth 100000
open Go.ChangeShapes Go.WideShapes Go.ChangeAt Go.RowKit
set_option linter.unusedVariables false
set_option linter.unusedSimpArgs false
def Ziw (bs:List Nat) (b0 b1 b2 b4 b5:Nat) (f:Option (List FnV)):Option Zg6:=match f with
 | none=>none
 | some f=>match WC bs b4 b5 b1 b2 0 [] [] with
   | none=>none
   | some n=>some (b0,f,n)
set_option maxRecDepth 100000 in
set_option maxHeartbeats 8000000 in
theorem Ve (bs:List Nat) (rva size b0 b1 b2 b3 b4 b5:Nat) (w wr:World) (R:Option (List FnV)) (RR:Option Zg6)
 (HLB:Hid (Lb bs)) (hlen:bs.length≤1000000) (hr:rva≤9223372036854775807) (hz:size≤9223372036854775807) (hn1:b1≤256) (hn2:b2≤256) (HIN1:Hid (b1=0∨b3+4 * b1≤bs.length)) (HIN:Hid (b2=0∨(b4+4 * b2≤bs.length∧b5+2 * b2≤bs.length)))
 (HR:Hid (Wz bs rva size b3 b1 0 []=R)) (HRR:Hid (RR=Ziw bs b0 b1 b2 b4 b5 R))
 (HB:Hid (Below w.heap.size w wr)) (H0:Hid (wr.heap[w.heap.size]? =some (.cells #[.int .i64 rva,.int .i64 size] 37 (0,0)))) (H1:Hid (wr.heap[w.heap.size+1]? =some (.cells #[.int .i64 0,.slice none 0 0,.slice none 0 0] 45 (0,0)))) (H2:Hid (wr.heap[w.heap.size+2]? =some (.cells #[.int .i64 0,.slice none 0 0,.slice none 0 0] 45 (0,0))))
 (H3:Hid (wr.heap[w.heap.size+3]? =some (.cells #[.int .i64 b0,.slice none 0 0,.slice none 0 0] 45 (0,0)))) (a:Act)
 (ha:Has 244 [0,3,4,6,7,8,9,10,11,12] [.string (txt bs),.pointer (some ⟨w.heap.size,0,none⟩),.pointer (some ⟨w.heap.size+1,0,none⟩),.pointer (some ⟨w.heap.size+2,0,none⟩),.pointer (some ⟨w.heap.size+3,0,none⟩),.int .i64 b1,.int .i64 b2,.int .i64 b3,.int .i64 b4,.int .i64 b5] a):(ZY 8 Zi2).wp Tryz.prog (QX w RR) a wr:=by
 obtain⟨u,rfl⟩:=YK ha
 clear ha
 conv=>arg 2; whnf
 have hsz:(txt bs).size=bs.length:=Zm bs
 go_upto_region 11 with(fail)
 rename_i K2 hK2 K1 hK1
 have HK2:=Zg hK2
 clear hK2
 go_wp2_with fail
 go_loopw [13] (fun v13 wr=> ∃(i k:Nat) (l:List FnV) (A':Option Addr) (c':Nat),i+k=b1∧l.length=i∧v13= .int .i64 i∧ZR gC 2 wr (w.heap.size+4) 74 (.slice A' l.length c') l∧Below w.heap.size w wr∧wr.heap[w.heap.size]? =some (.cells #[.int .i64 rva,.int .i64 size] 37 (0,0))∧wr.heap[w.heap.size+1]? =some (.cells #[.int .i64 0,.slice none 0 0,.slice none 0 0] 45 (0,0))∧wr.heap[w.heap.size+2]? =some (.cells #[.int .i64 0,.slice none 0 0,.slice none 0 0] 45 (0,0))∧wr.heap[w.heap.size+3]? =some (.cells #[.int .i64 b0,.slice A' l.length c',.slice none 0 0] 45 (0,0))∧Wz bs rva size b3 k i l=R) (fun v13 _=>b1 - (intOf v13).toNat)
 case atStart=>exact⟨0,b1,[],none,0,by omega,rfl,rfl,ZR.nil _ _ _,HB.out,H0.out,H1.out,H2.out,H3.out,HR.out⟩
 case round =>
  obtain⟨i,k,l,A',c',hik,hli,rfl,hown,hbel,h0,h1,h2,h3,hR⟩:=hrel
  have HO:=Zg hown
  replace HB:=Zg hbel
  replace H0:=Zg h0
  replace H1:=Zg h1
  replace H2:=Zg h2
  replace H3:=Zg h3
  replace HR:=Zg hR
  have HLI:=Zg hli
  clear hown hbel h0 h1 h2 h3 hR hli
  by_cases hlt:i<b1
  ·obtain⟨k,rfl⟩: ∃ q,k=q+1:=⟨k - 1,by omega⟩
   obtain⟨m4,hm4⟩: ∃ m,4 * i=m:=⟨_,rfl⟩
   obtain⟨o,ho⟩: ∃ o,b3+m4=o:=⟨_,rfl⟩
   have hob:o+4≤bs.length:=by have:=HIN1.out; omega
   have em:(4:Int) * (i:Int)=(m4:Int):=by omega
   have wm:IntKind.i64.wrap (m4:Int)=(m4:Int):=by rw[IntKind.wrap_i64]; omega
   have eo:(b3:Int)+(m4:Int)=(o:Int):=by omega
   have wo:IntKind.i64.wrap (o:Int)=(o:Int):=by rw[IntKind.wrap_i64]; omega
   have HU:=Zg (fun W=>ZL bs o 4 W HLB.out (by omega) (by omega) hob)
   have hre:=HR.out
   simp only[Wz] at hre
   rw[hm4,ho] at hre
   have hv:=Ym (HLB.out.drop o) 4
   obtain⟨v,hvv⟩: ∃ v,YS (bs.drop o) 4=v:=⟨_,rfl⟩
   rw[hvv] at HU hre hv
   rw[show(256:Nat) ^ 4=4294967296 from rfl] at hv
   have HTX:=Zg (fun W=>Xs bs v 64 W HLB.out (by omega))
   have HRE2:=Zg hre
   clear hre hvv hm4 ho hob
   obtain⟨w1,hw1⟩: ∃ w1,wr.alloc (.cells #[.int .i64 v,.string ⟨#[]⟩] 74)=w1:=⟨_,rfl⟩
   have HE1:=Zg hw1
   have HA:=Zg (show Below wr.heap.size wr w1 from by rw[←hw1]; exact(Below.refl wr.heap.size wr).alloc (Nat.le_refl _) _)
   have HT:=Zg (show w1.heap[wr.heap.size]? =some (.cells #[.int .i64 v,.string (txt [])] 74 (0,0)) from by rw[←hw1]; exact heap_alloc_new wr _)
   clear hw1
   have t0:w1.cell? ⟨wr.heap.size,0,none⟩=some (.int .i64 v):=by rw[Zh HT.out]; rfl
   have r0:w1.cell? ⟨w.heap.size,0,none⟩=some (.int .i64 rva):=by rw[Zh ((HA.out.block _ (Zi H0.out)).trans H0.out)]; rfl
   have r1:w1.cell? ⟨w.heap.size,1,none⟩=some (.int .i64 size):=by rw[Zh ((HA.out.block _ (Zi H0.out)).trans H0.out)]; rfl
   have hvI:(v:Int)<4294967296:=by omega
   go_wp2_with fail
   refine(HU.out _).mono ?_
   rintro e w' ⟨rfl,rfl⟩
   clear em wm eo wo
   go_upto_region 15 with(fail)
   refine(congrArg _ HE1.out).mpr ?_
   have HRE4:=HRE2.out
   unfold Zin at HRE4
   by_cases hout:v<rva∨size≤v - rva
   ·rw[if_pos hout] at HRE4
    by_cases hvl:v<bs.length
    ·rw[if_pos hvl] at HRE4
     have HRE3:=Zg HRE4
     have dv: ¬ (bs.length:Int)≤(v:Int):=by omega
     clear HRE4 hvl
     rcases hout with ho1|ho1
     ·have d1: ¬ (rva:Int)≤(v:Int):=by omega
      clear ho1
      clear t0
      have e3f:w1.cell? ⟨w.heap.size+3,1,none⟩=some (.slice A' l.length c'):=by rw[Zh ((HA.out.block _ (Zi H3.out)).trans H3.out)]; rfl
      have t0:w1.cell? ⟨wr.heap.size,0,none⟩=some (.int .i64 v):=by rw[Zh HT.out]; rfl
      have t1:w1.cell? ⟨wr.heap.size,1,none⟩=some (.string (txt [])):=by rw[Zh HT.out]; rfl
      have HA1:=Zg ((HO.out.below HA.out).alloc (.cells #[.int .i64 v,.string (txt [])] 74))
      have HY1:=Zg (VA v [] w1)
      have HB7:=Zg (HB.out.trans (HA.out.mono HB.out.size))
      have HB8:=Zg (HB7.out.alloc HB7.out.size (.cells #[.int .i64 v,.string (txt [])] 74))
      have hAB:Below wr.heap.size wr (w1.alloc (.cells #[.int .i64 v,.string (txt [])] 74)):=HA.out.alloc HA.out.size _
      have H08:=Zg ((hAB.block w.heap.size (Zi H0.out)).trans H0.out)
      have H18:=Zg ((hAB.block (w.heap.size+1) (Zi H1.out)).trans H1.out)
      have H28:=Zg ((hAB.block (w.heap.size+2) (Zi H2.out)).trans H2.out)
      have H38:=Zg ((hAB.block (w.heap.size+3) (Zi H3.out)).trans H3.out)
      have HG3:=Zg (show w.heap.size+4≤(w1.alloc (.cells #[.int .i64 v,.string (txt [])] 74)).heap.size from Zi H38.out)
      have HG4:=Zg (show l.length+1≤maxLen from by rw[HLI.out]; unfold maxLen; omega)
      have HG5:=Zg (show(l.length+1) * 24≤140737488355328 from by rw[HLI.out]; omega)
      have hll:l.length<256:=by have:=HLI.out; omega
      have hll2:l.length+1≤b1:=by have:=HLI.out; omega
      clear hAB
      go_wp2_with (first
       | (at_builtin; refine Zv rfl (.tmp 181) (.tmp 183) 42 rfl (w.heap.size+4) 74 _ 24 rfl WT rfl (by omega) Ui Jy _ l rfl HA1.out w1.heap.size 1 rfl (v,[]) HY1.out HG4.out HG5.out HG3.out ?_; intro g5 cap5 w8 hown5 hg5 hat5
          have HG6:=Zg hg5
          have HN8:=Zg hown5
          have H39:=Zg ((hg5.block (w.heap.size+3) (Zi H38.out) (fun h=>by have:=(HA1.out.lt _ h.symm).1; omega)).trans H38.out)
          have hc8:w8.cell? ⟨w.heap.size+3,1,none⟩=some (.slice A' l.length c'):=by rw[Zh H39.out]; rfl
          have hf8:w8.frozen? ⟨w.heap.size+3,1,none⟩=false:=frozen_of_row _ _ _ _ _ H39.out
          clear hat5 hg5 hown5)
       | fail)
      have HB9:=Zg (HA1.out.grew HB8.out (by omega) HB8.out.size HG6.out)
      have H09:=Zg ((HG6.out.block w.heap.size (Zi H08.out) (fun h=>by have:=(HA1.out.lt _ h.symm).1; omega)).trans H08.out)
      have H19:=Zg ((HG6.out.block (w.heap.size+1) (Zi H18.out) (fun h=>by have:=(HA1.out.lt _ h.symm).1; omega)).trans H18.out)
      have H29:=Zg ((HG6.out.block (w.heap.size+2) (Zi H28.out) (fun h=>by have:=(HA1.out.lt _ h.symm).1; omega)).trans H28.out)
      go_roundw
      case rel=>exact⟨l.length+1,k,l++[(v,[])],_,cap5,by have:=HLI.out; omega,by simp,by first|go_num|(have:=HLI.out; congr 1; omega),by simpa using Zy HN8.out (by simp) _,HB9.out.setCell (p:=⟨w.heap.size+3,1,none⟩) (Nat.le_add_right _ _) _,(heap_setCell_other w8 _ _ _ (by simp)).trans H09.out,(heap_setCell_other w8 _ _ _ (by simp)).trans H19.out,(heap_setCell_other w8 _ _ _ (by simp)).trans H29.out,(by simpa using heap_setCell_same w8 (w.heap.size+3) 1 _ _ _ H39.out),by rw[HLI.out]; exact HRE3.out⟩
      case measure=>simp[intOf]; have:=HLI.out; omega
     ·by_cases hge:v<rva
      ·have d1: ¬ (rva:Int)≤(v:Int):=by omega
       clear ho1 hge
       clear t0
       have e3f:w1.cell? ⟨w.heap.size+3,1,none⟩=some (.slice A' l.length c'):=by rw[Zh ((HA.out.block _ (Zi H3.out)).trans H3.out)]; rfl
       have t0:w1.cell? ⟨wr.heap.size,0,none⟩=some (.int .i64 v):=by rw[Zh HT.out]; rfl
       have t1:w1.cell? ⟨wr.heap.size,1,none⟩=some (.string (txt [])):=by rw[Zh HT.out]; rfl
       have HA1:=Zg ((HO.out.below HA.out).alloc (.cells #[.int .i64 v,.string (txt [])] 74))
       have HY1:=Zg (VA v [] w1)
       have HB7:=Zg (HB.out.trans (HA.out.mono HB.out.size))
       have HB8:=Zg (HB7.out.alloc HB7.out.size (.cells #[.int .i64 v,.string (txt [])] 74))
       have hAB:Below wr.heap.size wr (w1.alloc (.cells #[.int .i64 v,.string (txt [])] 74)):=HA.out.alloc HA.out.size _
       have H08:=Zg ((hAB.block w.heap.size (Zi H0.out)).trans H0.out)
       have H18:=Zg ((hAB.block (w.heap.size+1) (Zi H1.out)).trans H1.out)
       have H28:=Zg ((hAB.block (w.heap.size+2) (Zi H2.out)).trans H2.out)
       have H38:=Zg ((hAB.block (w.heap.size+3) (Zi H3.out)).trans H3.out)
       have HG3:=Zg (show w.heap.size+4≤(w1.alloc (.cells #[.int .i64 v,.string (txt [])] 74)).heap.size from Zi H38.out)
       have HG4:=Zg (show l.length+1≤maxLen from by rw[HLI.out]; unfold maxLen; omega)
       have HG5:=Zg (show(l.length+1) * 24≤140737488355328 from by rw[HLI.out]; omega)
       have hll:l.length<256:=by have:=HLI.out; omega
       have hll2:l.length+1≤b1:=by have:=HLI.out; omega
       clear hAB
       go_wp2_with (first
        | (at_builtin; refine Zv rfl (.tmp 181) (.tmp 183) 42 rfl (w.heap.size+4) 74 _ 24 rfl WT rfl (by omega) Ui Jy _ l rfl HA1.out w1.heap.size 1 rfl (v,[]) HY1.out HG4.out HG5.out HG3.out ?_; intro g5 cap5 w8 hown5 hg5 hat5
           have HG6:=Zg hg5
           have HN8:=Zg hown5
           have H39:=Zg ((hg5.block (w.heap.size+3) (Zi H38.out) (fun h=>by have:=(HA1.out.lt _ h.symm).1; omega)).trans H38.out)
           have hc8:w8.cell? ⟨w.heap.size+3,1,none⟩=some (.slice A' l.length c'):=by rw[Zh H39.out]; rfl
           have hf8:w8.frozen? ⟨w.heap.size+3,1,none⟩=false:=frozen_of_row _ _ _ _ _ H39.out
           clear hat5 hg5 hown5)
        | fail)
       have HB9:=Zg (HA1.out.grew HB8.out (by omega) HB8.out.size HG6.out)
       have H09:=Zg ((HG6.out.block w.heap.size (Zi H08.out) (fun h=>by have:=(HA1.out.lt _ h.symm).1; omega)).trans H08.out)
       have H19:=Zg ((HG6.out.block (w.heap.size+1) (Zi H18.out) (fun h=>by have:=(HA1.out.lt _ h.symm).1; omega)).trans H18.out)
       have H29:=Zg ((HG6.out.block (w.heap.size+2) (Zi H28.out) (fun h=>by have:=(HA1.out.lt _ h.symm).1; omega)).trans H28.out)
       go_roundw
       case rel=>exact⟨l.length+1,k,l++[(v,[])],_,cap5,by have:=HLI.out; omega,by simp,by first|go_num|(have:=HLI.out; congr 1; omega),by simpa using Zy HN8.out (by simp) _,HB9.out.setCell (p:=⟨w.heap.size+3,1,none⟩) (Nat.le_add_right _ _) _,(heap_setCell_other w8 _ _ _ (by simp)).trans H09.out,(heap_setCell_other w8 _ _ _ (by simp)).trans H19.out,(heap_setCell_other w8 _ _ _ (by simp)).trans H29.out,(by simpa using heap_setCell_same w8 (w.heap.size+3) 1 _ _ _ H39.out),by rw[HLI.out]; exact HRE3.out⟩
       case measure=>simp[intOf]; have:=HLI.out; omega
      ·have d1:(rva:Int)≤(v:Int):=by omega
       have d2: ¬ (v:Int) - (rva:Int)<(size:Int):=by omega
       clear ho1 hge
       clear t0
       have e3f:w1.cell? ⟨w.heap.size+3,1,none⟩=some (.slice A' l.length c'):=by rw[Zh ((HA.out.block _ (Zi H3.out)).trans H3.out)]; rfl
       have t0:w1.cell? ⟨wr.heap.size,0,none⟩=some (.int .i64 v):=by rw[Zh HT.out]; rfl
       have t1:w1.cell? ⟨wr.heap.size,1,none⟩=some (.string (txt [])):=by rw[Zh HT.out]; rfl
       have HA1:=Zg ((HO.out.below HA.out).alloc (.cells #[.int .i64 v,.string (txt [])] 74))
       have HY1:=Zg (VA v [] w1)
       have HB7:=Zg (HB.out.trans (HA.out.mono HB.out.size))
       have HB8:=Zg (HB7.out.alloc HB7.out.size (.cells #[.int .i64 v,.string (txt [])] 74))
       have hAB:Below wr.heap.size wr (w1.alloc (.cells #[.int .i64 v,.string (txt [])] 74)):=HA.out.alloc HA.out.size _
       have H08:=Zg ((hAB.block w.heap.size (Zi H0.out)).trans H0.out)
       have H18:=Zg ((hAB.block (w.heap.size+1) (Zi H1.out)).trans H1.out)
       have H28:=Zg ((hAB.block (w.heap.size+2) (Zi H2.out)).trans H2.out)
       have H38:=Zg ((hAB.block (w.heap.size+3) (Zi H3.out)).trans H3.out)
       have HG3:=Zg (show w.heap.size+4≤(w1.alloc (.cells #[.int .i64 v,.string (txt [])] 74)).heap.size from Zi H38.out)
       have HG4:=Zg (show l.length+1≤maxLen from by rw[HLI.out]; unfold maxLen; omega)
       have HG5:=Zg (show(l.length+1) * 24≤140737488355328 from by rw[HLI.out]; omega)
       have hll:l.length<256:=by have:=HLI.out; omega
       have hll2:l.length+1≤b1:=by have:=HLI.out; omega
       clear hAB
       go_wp2_with (first
        | (at_builtin; refine Zv rfl (.tmp 181) (.tmp 183) 42 rfl (w.heap.size+4) 74 _ 24 rfl WT rfl (by omega) Ui Jy _ l rfl HA1.out w1.heap.size 1 rfl (v,[]) HY1.out HG4.out HG5.out HG3.out ?_; intro g5 cap5 w8 hown5 hg5 hat5
           have HG6:=Zg hg5
           have HN8:=Zg hown5
           have H39:=Zg ((hg5.block (w.heap.size+3) (Zi H38.out) (fun h=>by have:=(HA1.out.lt _ h.symm).1; omega)).trans H38.out)
           have hc8:w8.cell? ⟨w.heap.size+3,1,none⟩=some (.slice A' l.length c'):=by rw[Zh H39.out]; rfl
           have hf8:w8.frozen? ⟨w.heap.size+3,1,none⟩=false:=frozen_of_row _ _ _ _ _ H39.out
           clear hat5 hg5 hown5)
        | fail)
       have HB9:=Zg (HA1.out.grew HB8.out (by omega) HB8.out.size HG6.out)
       have H09:=Zg ((HG6.out.block w.heap.size (Zi H08.out) (fun h=>by have:=(HA1.out.lt _ h.symm).1; omega)).trans H08.out)
       have H19:=Zg ((HG6.out.block (w.heap.size+1) (Zi H18.out) (fun h=>by have:=(HA1.out.lt _ h.symm).1; omega)).trans H18.out)
       have H29:=Zg ((HG6.out.block (w.heap.size+2) (Zi H28.out) (fun h=>by have:=(HA1.out.lt _ h.symm).1; omega)).trans H28.out)
       go_roundw
       case rel=>exact⟨l.length+1,k,l++[(v,[])],_,cap5,by have:=HLI.out; omega,by simp,by first|go_num|(have:=HLI.out; congr 1; omega),by simpa using Zy HN8.out (by simp) _,HB9.out.setCell (p:=⟨w.heap.size+3,1,none⟩) (Nat.le_add_right _ _) _,(heap_setCell_other w8 _ _ _ (by simp)).trans H09.out,(heap_setCell_other w8 _ _ _ (by simp)).trans H19.out,(heap_setCell_other w8 _ _ _ (by simp)).trans H29.out,(by simpa using heap_setCell_same w8 (w.heap.size+3) 1 _ _ _ H39.out),by rw[HLI.out]; exact HRE3.out⟩
       case measure=>simp[intOf]; have:=HLI.out; omega
    ·rw[if_neg hvl] at HRE4
     simp only at HRE4
     subst HRE4
     have hrr:=HRR.out
     simp only[Ziw] at hrr
     subst hrr
     have dv:(bs.length:Int)≤(v:Int):=by omega
     clear hvl
     rcases hout with ho1|ho1
     ·have d1: ¬ (rva:Int)≤(v:Int):=by omega
      clear ho1
      have HN1:=Zg ((HA.out.block (w.heap.size+1) (Zi H1.out)).trans H1.out)
      have HN2:=Zg ((HA.out.block (w.heap.size+2) (Zi H2.out)).trans H2.out)
      have HNB:=Zg (HB.out.trans (HA.out.mono HB.out.size))
      have z0:w1.cell? ⟨w.heap.size+2,0,none⟩=some (.int .i64 0):=by rw[Zh HN2.out]; rfl
      have z1:w1.cell? ⟨w.heap.size+2,1,none⟩=some (.slice none 0 0):=by rw[Zh HN2.out]; rfl
      have z2:w1.cell? ⟨w.heap.size+2,2,none⟩=some (.slice none 0 0):=by rw[Zh HN2.out]; rfl
      obtain⟨w9,hw9⟩: ∃ w9,w1.setRow (w.heap.size+1) #[.int .i64 0,.slice none 0 0,.slice none 0 0]=w9:=⟨_,rfl⟩
      have HE9:=Zg hw9
      have HR9:=Zg (show w9.heap[w.heap.size+1]? =some (.cells #[.int .i64 0,.slice none 0 0,.slice none 0 0] 45 (0,0)) from by rw[←hw9]; exact setRow_heap _ _ _ _ _ _ HN1.out)
      have HB9:=Zg (show Below w.heap.size w w9 from by rw[←hw9]; exact below_setRow HNB.out (Nat.le_succ _) _)
      have k0:w9.cell? ⟨w.heap.size+1,0,none⟩=some (.int .i64 0):=by rw[Zh HR9.out]; rfl
      have k1:w9.cell? ⟨w.heap.size+1,1,none⟩=some (.slice none 0 0):=by rw[Zh HR9.out]; rfl
      have k2:w9.cell? ⟨w.heap.size+1,2,none⟩=some (.slice none 0 0):=by rw[Zh HR9.out]; rfl
      clear hw9
      go_upto_region 24 with(fail)
      go_wp2_with (first|(refine wpList_store_row rfl 45 _ _ rfl (w.heap.size+1) #[.int .i64 0,.slice none 0 0,.slice none 0 0] rfl rfl 45 #[.int .i64 0,.slice none 0 0,.slice none 0 0] HN1.out Yg rfl Yh ?_; refine(congrArg _ HE9.out).mpr ?_)|fail)
      refine bodyPost_ret (v:= .tuple #[.agg #[.int .i64 0,.slice none 0 0,.slice none 0 0],.int .i64 11]) (by simp[results,Tryz.results38,go_sem,k0,k1,k2]) rfl ⟨?_,HB9.out⟩
      exact rfl
     ·by_cases hge:v<rva
      ·have d1: ¬ (rva:Int)≤(v:Int):=by omega
       clear ho1 hge
       have HN1:=Zg ((HA.out.block (w.heap.size+1) (Zi H1.out)).trans H1.out)
       have HN2:=Zg ((HA.out.block (w.heap.size+2) (Zi H2.out)).trans H2.out)
       have HNB:=Zg (HB.out.trans (HA.out.mono HB.out.size))
       have z0:w1.cell? ⟨w.heap.size+2,0,none⟩=some (.int .i64 0):=by rw[Zh HN2.out]; rfl
       have z1:w1.cell? ⟨w.heap.size+2,1,none⟩=some (.slice none 0 0):=by rw[Zh HN2.out]; rfl
       have z2:w1.cell? ⟨w.heap.size+2,2,none⟩=some (.slice none 0 0):=by rw[Zh HN2.out]; rfl
       obtain⟨w9,hw9⟩: ∃ w9,w1.setRow (w.heap.size+1) #[.int .i64 0,.slice none 0 0,.slice none 0 0]=w9:=⟨_,rfl⟩
       have HE9:=Zg hw9
       have HR9:=Zg (show w9.heap[w.heap.size+1]? =some (.cells #[.int .i64 0,.slice none 0 0,.slice none 0 0] 45 (0,0)) from by rw[←hw9]; exact setRow_heap _ _ _ _ _ _ HN1.out)
       have HB9:=Zg (show Below w.heap.size w w9 from by rw[←hw9]; exact below_setRow HNB.out (Nat.le_succ _) _)
       have k0:w9.cell? ⟨w.heap.size+1,0,none⟩=some (.int .i64 0):=by rw[Zh HR9.out]; rfl
       have k1:w9.cell? ⟨w.heap.size+1,1,none⟩=some (.slice none 0 0):=by rw[Zh HR9.out]; rfl
       have k2:w9.cell? ⟨w.heap.size+1,2,none⟩=some (.slice none 0 0):=by rw[Zh HR9.out]; rfl
       clear hw9
       go_upto_region 24 with(fail)
       go_wp2_with (first|(refine wpList_store_row rfl 45 _ _ rfl (w.heap.size+1) #[.int .i64 0,.slice none 0 0,.slice none 0 0] rfl rfl 45 #[.int .i64 0,.slice none 0 0,.slice none 0 0] HN1.out Yg rfl Yh ?_; refine(congrArg _ HE9.out).mpr ?_)|fail)
       refine bodyPost_ret (v:= .tuple #[.agg #[.int .i64 0,.slice none 0 0,.slice none 0 0],.int .i64 11]) (by simp[results,Tryz.results38,go_sem,k0,k1,k2]) rfl ⟨?_,HB9.out⟩
       exact rfl
      ·have d1:(rva:Int)≤(v:Int):=by omega
       have d2: ¬ (v:Int) - (rva:Int)<(size:Int):=by omega
       clear ho1 hge
       have HN1:=Zg ((HA.out.block (w.heap.size+1) (Zi H1.out)).trans H1.out)
       have HN2:=Zg ((HA.out.block (w.heap.size+2) (Zi H2.out)).trans H2.out)
       have HNB:=Zg (HB.out.trans (HA.out.mono HB.out.size))
       have z0:w1.cell? ⟨w.heap.size+2,0,none⟩=some (.int .i64 0):=by rw[Zh HN2.out]; rfl
       have z1:w1.cell? ⟨w.heap.size+2,1,none⟩=some (.slice none 0 0):=by rw[Zh HN2.out]; rfl
       have z2:w1.cell? ⟨w.heap.size+2,2,none⟩=some (.slice none 0 0):=by rw[Zh HN2.out]; rfl
       obtain⟨w9,hw9⟩: ∃ w9,w1.setRow (w.heap.size+1) #[.int .i64 0,.slice none 0 0,.slice none 0 0]=w9:=⟨_,rfl⟩
       have HE9:=Zg hw9
       have HR9:=Zg (show w9.heap[w.heap.size+1]? =some (.cells #[.int .i64 0,.slice none 0 0,.slice none 0 0] 45 (0,0)) from by rw[←hw9]; exact setRow_heap _ _ _ _ _ _ HN1.out)
       have HB9:=Zg (show Below w.heap.size w w9 from by rw[←hw9]; exact below_setRow HNB.out (Nat.le_succ _) _)
       have k0:w9.cell? ⟨w.heap.size+1,0,none⟩=some (.int .i64 0):=by rw[Zh HR9.out]; rfl
       have k1:w9.cell? ⟨w.heap.size+1,1,none⟩=some (.slice none 0 0):=by rw[Zh HR9.out]; rfl
       have k2:w9.cell? ⟨w.heap.size+1,2,none⟩=some (.slice none 0 0):=by rw[Zh HR9.out]; rfl
       clear hw9
       go_upto_region 24 with(fail)
       go_wp2_with (first|(refine wpList_store_row rfl 45 _ _ rfl (w.heap.size+1) #[.int .i64 0,.slice none 0 0,.slice none 0 0] rfl rfl 45 #[.int .i64 0,.slice none 0 0,.slice none 0 0] HN1.out Yg rfl Yh ?_; refine(congrArg _ HE9.out).mpr ?_)|fail)
       refine bodyPost_ret (v:= .tuple #[.agg #[.int .i64 0,.slice none 0 0,.slice none 0 0],.int .i64 11]) (by simp[results,Tryz.results38,go_sem,k0,k1,k2]) rfl ⟨?_,HB9.out⟩
       exact rfl
   ·rw[if_neg hout] at HRE4
    have d1:(rva:Int)≤(v:Int):=by omega
    have d2:(v:Int) - (rva:Int)<(size:Int):=by omega
    clear hout
    go_wp2_with (first
     | fail)
    refine(HTX.out _).mono ?_
    rintro e w' ⟨rfl,rfl⟩
    rcases htx:XV bs v 64 with _|t
    ·rw[htx] at HRE4
     simp only at HRE4 ⊢
     subst HRE4
     have hrr:=HRR.out
     simp only[Ziw] at hrr
     subst hrr
     have HN1:=Zg ((HA.out.block (w.heap.size+1) (Zi H1.out)).trans H1.out)
     have HN2:=Zg ((HA.out.block (w.heap.size+2) (Zi H2.out)).trans H2.out)
     have HNB:=Zg (HB.out.trans (HA.out.mono HB.out.size))
     have z0:w1.cell? ⟨w.heap.size+2,0,none⟩=some (.int .i64 0):=by rw[Zh HN2.out]; rfl
     have z1:w1.cell? ⟨w.heap.size+2,1,none⟩=some (.slice none 0 0):=by rw[Zh HN2.out]; rfl
     have z2:w1.cell? ⟨w.heap.size+2,2,none⟩=some (.slice none 0 0):=by rw[Zh HN2.out]; rfl
     obtain⟨w9,hw9⟩: ∃ w9,w1.setRow (w.heap.size+1) #[.int .i64 0,.slice none 0 0,.slice none 0 0]=w9:=⟨_,rfl⟩
     have HE9:=Zg hw9
     have HR9:=Zg (show w9.heap[w.heap.size+1]? =some (.cells #[.int .i64 0,.slice none 0 0,.slice none 0 0] 45 (0,0)) from by rw[←hw9]; exact setRow_heap _ _ _ _ _ _ HN1.out)
     have HB9:=Zg (show Below w.heap.size w w9 from by rw[←hw9]; exact below_setRow HNB.out (Nat.le_succ _) _)
     have k0:w9.cell? ⟨w.heap.size+1,0,none⟩=some (.int .i64 0):=by rw[Zh HR9.out]; rfl
     have k1:w9.cell? ⟨w.heap.size+1,1,none⟩=some (.slice none 0 0):=by rw[Zh HR9.out]; rfl
     have k2:w9.cell? ⟨w.heap.size+1,2,none⟩=some (.slice none 0 0):=by rw[Zh HR9.out]; rfl
     clear hw9
     go_wp2_with (first|(refine wpList_store_row rfl 45 _ _ rfl (w.heap.size+1) #[.int .i64 0,.slice none 0 0,.slice none 0 0] rfl rfl 45 #[.int .i64 0,.slice none 0 0,.slice none 0 0] HN1.out Yg rfl Yh ?_; refine(congrArg _ HE9.out).mpr ?_)|fail)
     refine bodyPost_ret (v:= .tuple #[.agg #[.int .i64 0,.slice none 0 0,.slice none 0 0],.int .i64 11]) (by simp[results,Tryz.results38,go_sem,k0,k1,k2]) rfl ⟨?_,HB9.out⟩
     exact rfl
    ·rw[htx] at HRE4
     have hlt':=XP HLB.out htx
     have HSP:=Zg (fun W=>Zdx t W hlt'.1 (by have:=hlt'.2; omega))
     simp only at HRE4 ⊢
     clear hlt' htx HTX
     go_wp2_with fail
     refine(HSP.out _).mono ?_
     rintro e w2 ⟨⟨D,SS,OO,BB,rfl⟩,hw2⟩
     obtain⟨w3,hw3⟩: ∃ w3,w2.alloc (.cells #[.string D,.string SS,.int .i64 OO,.bool BB] 125)=w3:=⟨_,rfl⟩
     have HE3:=Zg hw3
     have hA2:Below wr.heap.size wr w2:=HA.out.trans (hw2.mono HA.out.size)
     have HA3:=Zg (show Below wr.heap.size wr w3 from by rw[←hw3]; exact hA2.alloc hA2.size _)
     have hw23:Below w1.heap.size w1 w3:=by rw[←hw3]; exact hw2.alloc hw2.size _
     have HT3:=Zg ((hw23.block wr.heap.size (Zi HT.out)).trans HT.out)
     clear hw3 hA2 hw23 hw2 t0 r0 r1
     go_upto_region 20 with(fail)
     refine(congrArg _ HE3.out).mpr ?_
     by_cases hso:XO t=true
     ·rw[if_pos hso] at HRE4
      rw[hso]
      have HRE3:=Zg HRE4
      obtain⟨w4,hw4⟩: ∃ w4,w3.setRow wr.heap.size #[.int .i64 0,.string (txt t)]=w4:=⟨_,rfl⟩
      have HE4:=Zg hw4
      have HA4:=Zg (show Below wr.heap.size wr w4 from by rw[←hw4]; exact below_setRow HA3.out (Nat.le_refl _) _)
      have HT4:=Zg (show w4.heap[wr.heap.size]? =some (.cells #[.int .i64 0,.string (txt t)] 74 (0,0)) from by rw[←hw4]; exact setRow_heap _ _ _ _ _ _ HT3.out)
      clear hw4 HRE4 hso
      have e3f:w4.cell? ⟨w.heap.size+3,1,none⟩=some (.slice A' l.length c'):=by rw[Zh ((HA4.out.block _ (Zi H3.out)).trans H3.out)]; rfl
      have t0:w4.cell? ⟨wr.heap.size,0,none⟩=some (.int .i64 0):=by rw[Zh HT4.out]; rfl
      have t1:w4.cell? ⟨wr.heap.size,1,none⟩=some (.string (txt t)):=by rw[Zh HT4.out]; rfl
      have HA1:=Zg ((HO.out.below HA4.out).alloc (.cells #[.int .i64 0,.string (txt t)] 74))
      have HY1:=Zg (VA 0 t w4)
      have HB7:=Zg (HB.out.trans (HA4.out.mono HB.out.size))
      have HB8:=Zg (HB7.out.alloc HB7.out.size (.cells #[.int .i64 0,.string (txt t)] 74))
      have hAB:Below wr.heap.size wr (w4.alloc (.cells #[.int .i64 0,.string (txt t)] 74)):=HA4.out.alloc HA4.out.size _
      have H08:=Zg ((hAB.block w.heap.size (Zi H0.out)).trans H0.out)
      have H18:=Zg ((hAB.block (w.heap.size+1) (Zi H1.out)).trans H1.out)
      have H28:=Zg ((hAB.block (w.heap.size+2) (Zi H2.out)).trans H2.out)
      have H38:=Zg ((hAB.block (w.heap.size+3) (Zi H3.out)).trans H3.out)
      have HG3:=Zg (show w.heap.size+4≤(w4.alloc (.cells #[.int .i64 0,.string (txt t)] 74)).heap.size from Zi H38.out)
      have HG4:=Zg (show l.length+1≤maxLen from by rw[HLI.out]; unfold maxLen; omega)
      have HG5:=Zg (show(l.length+1) * 24≤140737488355328 from by rw[HLI.out]; omega)
      have hll:l.length<256:=by have:=HLI.out; omega
      have hll2:l.length+1≤b1:=by have:=HLI.out; omega
      clear hAB
      go_wp2_with (first
       | (refine wpList_store_row rfl 74 _ _ rfl wr.heap.size #[.int .i64 0,.string (txt t)] rfl rfl 74 #[.int .i64 v,.string (txt [])] HT3.out fnInfo rfl fnOne ?_; refine(congrArg _ HE4.out).mpr ?_)
       | (at_builtin; refine Zv rfl (.tmp 181) (.tmp 183) 42 rfl (w.heap.size+4) 74 _ 24 rfl WT rfl (by omega) Ui Jy _ l rfl HA1.out w4.heap.size 1 rfl (0,t) HY1.out HG4.out HG5.out HG3.out ?_; intro g5 cap5 w8 hown5 hg5 hat5
          have HG6:=Zg hg5
          have HN8:=Zg hown5
          have H39:=Zg ((hg5.block (w.heap.size+3) (Zi H38.out) (fun h=>by have:=(HA1.out.lt _ h.symm).1; omega)).trans H38.out)
          have hc8:w8.cell? ⟨w.heap.size+3,1,none⟩=some (.slice A' l.length c'):=by rw[Zh H39.out]; rfl
          have hf8:w8.frozen? ⟨w.heap.size+3,1,none⟩=false:=frozen_of_row _ _ _ _ _ H39.out
          clear hat5 hg5 hown5)
       | fail)
      have HB9:=Zg (HA1.out.grew HB8.out (by omega) HB8.out.size HG6.out)
      have H09:=Zg ((HG6.out.block w.heap.size (Zi H08.out) (fun h=>by have:=(HA1.out.lt _ h.symm).1; omega)).trans H08.out)
      have H19:=Zg ((HG6.out.block (w.heap.size+1) (Zi H18.out) (fun h=>by have:=(HA1.out.lt _ h.symm).1; omega)).trans H18.out)
      have H29:=Zg ((HG6.out.block (w.heap.size+2) (Zi H28.out) (fun h=>by have:=(HA1.out.lt _ h.symm).1; omega)).trans H28.out)
      go_roundw
      case rel=>exact⟨l.length+1,k,l++[(0,t)],_,cap5,by have:=HLI.out; omega,by simp,by first|go_num|(have:=HLI.out; congr 1; omega),by simpa using Zy HN8.out (by simp) _,HB9.out.setCell (p:=⟨w.heap.size+3,1,none⟩) (Nat.le_add_right _ _) _,(heap_setCell_other w8 _ _ _ (by simp)).trans H09.out,(heap_setCell_other w8 _ _ _ (by simp)).trans H19.out,(heap_setCell_other w8 _ _ _ (by simp)).trans H29.out,(by simpa using heap_setCell_same w8 (w.heap.size+3) 1 _ _ _ H39.out),by rw[HLI.out]; exact HRE3.out⟩
      case measure=>simp[intOf]; have:=HLI.out; omega
     ·rw[if_neg hso] at HRE4
      rw[show XO t=false by simpa using hso]
      simp only at HRE4
      subst HRE4
      have hrr:=HRR.out
      simp only[Ziw] at hrr
      subst hrr
      clear hso
      have HN1:=Zg ((HA3.out.block (w.heap.size+1) (Zi H1.out)).trans H1.out)
      have HN2:=Zg ((HA3.out.block (w.heap.size+2) (Zi H2.out)).trans H2.out)
      have HNB:=Zg (HB.out.trans (HA3.out.mono HB.out.size))
      have z0:w3.cell? ⟨w.heap.size+2,0,none⟩=some (.int .i64 0):=by rw[Zh HN2.out]; rfl
      have z1:w3.cell? ⟨w.heap.size+2,1,none⟩=some (.slice none 0 0):=by rw[Zh HN2.out]; rfl
      have z2:w3.cell? ⟨w.heap.size+2,2,none⟩=some (.slice none 0 0):=by rw[Zh HN2.out]; rfl
      obtain⟨w9,hw9⟩: ∃ w9,w3.setRow (w.heap.size+1) #[.int .i64 0,.slice none 0 0,.slice none 0 0]=w9:=⟨_,rfl⟩
      have HE9:=Zg hw9
      have HR9:=Zg (show w9.heap[w.heap.size+1]? =some (.cells #[.int .i64 0,.slice none 0 0,.slice none 0 0] 45 (0,0)) from by rw[←hw9]; exact setRow_heap _ _ _ _ _ _ HN1.out)
      have HB9:=Zg (show Below w.heap.size w w9 from by rw[←hw9]; exact below_setRow HNB.out (Nat.le_succ _) _)
      have k0:w9.cell? ⟨w.heap.size+1,0,none⟩=some (.int .i64 0):=by rw[Zh HR9.out]; rfl
      have k1:w9.cell? ⟨w.heap.size+1,1,none⟩=some (.slice none 0 0):=by rw[Zh HR9.out]; rfl
      have k2:w9.cell? ⟨w.heap.size+1,2,none⟩=some (.slice none 0 0):=by rw[Zh HR9.out]; rfl
      clear hw9
      go_upto_region 21 with(fail)
      go_wp2_with (first|(refine wpList_store_row rfl 45 _ _ rfl (w.heap.size+1) #[.int .i64 0,.slice none 0 0,.slice none 0 0] rfl rfl 45 #[.int .i64 0,.slice none 0 0,.slice none 0 0] HN1.out Yg rfl Yh ?_; refine(congrArg _ HE9.out).mpr ?_)|fail)
      refine bodyPost_ret (v:= .tuple #[.agg #[.int .i64 0,.slice none 0 0,.slice none 0 0],.int .i64 11]) (by simp[results,Tryz.results38,go_sem,k0,k1,k2]) rfl ⟨?_,HB9.out⟩
      exact rfl
  ·obtain rfl:k=0:=by omega
   have hre:=HR.out
   simp only[Wz] at hre
   subst hre
   go_wp2_with fail
   refine HK2.out _ _ ?_
   exact Zer bs b0 b1 b2 b4 b5 w wr l A' c' _ RR HLB hlen hn2 HIN (Zg rfl) (Zg (by rw[HRR.out]; unfold Ziw; cases WC bs b4 b5 b1 b2 0 [] [] <;> rfl)) HB H1 H2 H3 HO _ ⟨rfl,rfl,rfl⟩
theorem Zj3 (long at' n:Nat) (w:World) (hl:long≤9223372036854775807) :
 Calls Tryz.prog 73 #[.int .i64 long,.int .i64 at',.int .i64 n] w fun e w'=>e= .returned (.bool (decide (at'+n≤long)))∧w=w':=by
 by_cases c:at'+n≤long
 ·rw[decide_eq_true c]; exact Vl long at' n w (by omega) (by omega) (by omega) (by omega)
 ·rw[decide_eq_false c]; exact QU long at' n w (by omega) (by omega) (by omega)
set_option maxRecDepth 100000 in
set_option maxHeartbeats 8000000 in
theorem Zia (bs:List Nat) (rva size b0 b1 b2 b3 b4 b5:Nat) (w wr:World) (RR:Option Zg6)
 (HLB:Hid (Lb bs)) (hlen:bs.length≤1000000) (hr:rva≤9223372036854775807) (hz:size≤9223372036854775807) (g0:b0<4294967296) (g1:b1<4294967296) (g2:b2<4294967296) (g3:b3<4294967296) (g4:b4<4294967296) (g5:b5<4294967296)
 (HRR:Hid (RR=if(Rw.mk b0 b1 b2 b3 b4 b5).ok bs.length=true then Ziw bs b0 b1 b2 b4 b5 (Wz bs rva size b3 b1 0 []) else none))
 (HB:Hid (Below w.heap.size w wr)) (H0:Hid (wr.heap[w.heap.size]? =some (.cells #[.int .i64 rva,.int .i64 size] 37 (0,0)))) (H1:Hid (wr.heap[w.heap.size+1]? =some (.cells #[.int .i64 0,.slice none 0 0,.slice none 0 0] 45 (0,0)))) (H2:Hid (wr.heap[w.heap.size+2]? =some (.cells #[.int .i64 0,.slice none 0 0,.slice none 0 0] 45 (0,0))))
 (H3:Hid (wr.heap[w.heap.size+3]? =some (.cells #[.int .i64 b0,.slice none 0 0,.slice none 0 0] 45 (0,0)))) (a:Act)
 (ha:Has 244 [0,3,4,6,7,8,9,10,11,12] [.string (txt bs),.pointer (some ⟨w.heap.size,0,none⟩),.pointer (some ⟨w.heap.size+1,0,none⟩),.pointer (some ⟨w.heap.size+2,0,none⟩),.pointer (some ⟨w.heap.size+3,0,none⟩),.int .i64 b1,.int .i64 b2,.int .i64 b3,.int .i64 b4,.int .i64 b5] a):(ZY 7 Zi2).wp Tryz.prog (QX w RR) a wr:=by
 obtain⟨u,rfl⟩:=YK ha
 clear ha
 conv=>arg 2; whnf
 have hsz:(txt bs).size=bs.length:=Zm bs
 have e0:wr.cell? ⟨w.heap.size+3,0,none⟩=some (.int .i64 b0):=by rw[Zh H3.out]; rfl
 go_upto_region 9 with(fail)
 rename_i K2 hK2 K1 hK1
 have HK2:=Zg hK2
 clear hK2
 have HRZ:=Zg (And.intro hr hz)
 clear hr hz
 by_cases c0:65535<b0
 ·have hbad:(Rw.mk b0 b1 b2 b3 b4 b5).ok bs.length=false:=by
   rw[Bool.eq_false_iff]
   intro q
   simp only[Rw.ok,inL,Bool.and_eq_true,Bool.or_eq_true,decide_eq_true_eq] at q
   omega
  have hrr:=HRR.out
  rw[hbad,if_neg (by simp)] at hrr
  subst hrr
  clear hbad
  have d0:(65535:Int)<(b0:Int):=by omega
  have z0:wr.cell? ⟨w.heap.size+2,0,none⟩=some (.int .i64 0):=by rw[Zh H2.out]; rfl
  have z1:wr.cell? ⟨w.heap.size+2,1,none⟩=some (.slice none 0 0):=by rw[Zh H2.out]; rfl
  have z2:wr.cell? ⟨w.heap.size+2,2,none⟩=some (.slice none 0 0):=by rw[Zh H2.out]; rfl
  obtain⟨w9,hw9⟩: ∃ w9,wr.setRow (w.heap.size+1) #[.int .i64 0,.slice none 0 0,.slice none 0 0]=w9:=⟨_,rfl⟩
  have HE9:=Zg hw9
  have HR9:=Zg (show w9.heap[w.heap.size+1]? =some (.cells #[.int .i64 0,.slice none 0 0,.slice none 0 0] 45 (0,0)) from by rw[←hw9]; exact setRow_heap _ _ _ _ _ _ H1.out)
  have HB9:=Zg (show Below w.heap.size w w9 from by rw[←hw9]; exact below_setRow HB.out (Nat.le_succ _) _)
  have k0:w9.cell? ⟨w.heap.size+1,0,none⟩=some (.int .i64 0):=by rw[Zh HR9.out]; rfl
  have k1:w9.cell? ⟨w.heap.size+1,1,none⟩=some (.slice none 0 0):=by rw[Zh HR9.out]; rfl
  have k2:w9.cell? ⟨w.heap.size+1,2,none⟩=some (.slice none 0 0):=by rw[Zh HR9.out]; rfl
  clear hw9
  go_upto_region 10 with(fail)
  go_wp2_with (first|(refine wpList_store_row rfl 45 _ _ rfl (w.heap.size+1) #[.int .i64 0,.slice none 0 0,.slice none 0 0] rfl rfl 45 #[.int .i64 0,.slice none 0 0,.slice none 0 0] H1.out Yg rfl Yh ?_; refine(congrArg _ HE9.out).mpr ?_)|fail)
  refine bodyPost_ret (v:= .tuple #[.agg #[.int .i64 0,.slice none 0 0,.slice none 0 0],.int .i64 11]) (by simp[results,Tryz.results38,go_sem,k0,k1,k2]) rfl ⟨?_,HB9.out⟩
  exact rfl
 have d0: ¬ (65535:Int)<(b0:Int):=by omega
 by_cases c1:256<b1
 ·have hbad:(Rw.mk b0 b1 b2 b3 b4 b5).ok bs.length=false:=by
   rw[Bool.eq_false_iff]
   intro q
   simp only[Rw.ok,inL,Bool.and_eq_true,Bool.or_eq_true,decide_eq_true_eq] at q
   omega
  have hrr:=HRR.out
  rw[hbad,if_neg (by simp)] at hrr
  subst hrr
  clear hbad
  have d1:(256:Int)<(b1:Int):=by omega
  have z0:wr.cell? ⟨w.heap.size+2,0,none⟩=some (.int .i64 0):=by rw[Zh H2.out]; rfl
  have z1:wr.cell? ⟨w.heap.size+2,1,none⟩=some (.slice none 0 0):=by rw[Zh H2.out]; rfl
  have z2:wr.cell? ⟨w.heap.size+2,2,none⟩=some (.slice none 0 0):=by rw[Zh H2.out]; rfl
  obtain⟨w9,hw9⟩: ∃ w9,wr.setRow (w.heap.size+1) #[.int .i64 0,.slice none 0 0,.slice none 0 0]=w9:=⟨_,rfl⟩
  have HE9:=Zg hw9
  have HR9:=Zg (show w9.heap[w.heap.size+1]? =some (.cells #[.int .i64 0,.slice none 0 0,.slice none 0 0] 45 (0,0)) from by rw[←hw9]; exact setRow_heap _ _ _ _ _ _ H1.out)
  have HB9:=Zg (show Below w.heap.size w w9 from by rw[←hw9]; exact below_setRow HB.out (Nat.le_succ _) _)
  have k0:w9.cell? ⟨w.heap.size+1,0,none⟩=some (.int .i64 0):=by rw[Zh HR9.out]; rfl
  have k1:w9.cell? ⟨w.heap.size+1,1,none⟩=some (.slice none 0 0):=by rw[Zh HR9.out]; rfl
  have k2:w9.cell? ⟨w.heap.size+1,2,none⟩=some (.slice none 0 0):=by rw[Zh HR9.out]; rfl
  clear hw9
  go_upto_region 10 with(fail)
  go_wp2_with (first|(refine wpList_store_row rfl 45 _ _ rfl (w.heap.size+1) #[.int .i64 0,.slice none 0 0,.slice none 0 0] rfl rfl 45 #[.int .i64 0,.slice none 0 0,.slice none 0 0] H1.out Yg rfl Yh ?_; refine(congrArg _ HE9.out).mpr ?_)|fail)
  refine bodyPost_ret (v:= .tuple #[.agg #[.int .i64 0,.slice none 0 0,.slice none 0 0],.int .i64 11]) (by simp[results,Tryz.results38,go_sem,k0,k1,k2]) rfl ⟨?_,HB9.out⟩
  exact rfl
 have d1: ¬ (256:Int)<(b1:Int):=by omega
 by_cases c2:256<b2
 ·have hbad:(Rw.mk b0 b1 b2 b3 b4 b5).ok bs.length=false:=by
   rw[Bool.eq_false_iff]
   intro q
   simp only[Rw.ok,inL,Bool.and_eq_true,Bool.or_eq_true,decide_eq_true_eq] at q
   omega
  have hrr:=HRR.out
  rw[hbad,if_neg (by simp)] at hrr
  subst hrr
  clear hbad
  have d2:(256:Int)<(b2:Int):=by omega
  have z0:wr.cell? ⟨w.heap.size+2,0,none⟩=some (.int .i64 0):=by rw[Zh H2.out]; rfl
  have z1:wr.cell? ⟨w.heap.size+2,1,none⟩=some (.slice none 0 0):=by rw[Zh H2.out]; rfl
  have z2:wr.cell? ⟨w.heap.size+2,2,none⟩=some (.slice none 0 0):=by rw[Zh H2.out]; rfl
  obtain⟨w9,hw9⟩: ∃ w9,wr.setRow (w.heap.size+1) #[.int .i64 0,.slice none 0 0,.slice none 0 0]=w9:=⟨_,rfl⟩
  have HE9:=Zg hw9
  have HR9:=Zg (show w9.heap[w.heap.size+1]? =some (.cells #[.int .i64 0,.slice none 0 0,.slice none 0 0] 45 (0,0)) from by rw[←hw9]; exact setRow_heap _ _ _ _ _ _ H1.out)
  have HB9:=Zg (show Below w.heap.size w w9 from by rw[←hw9]; exact below_setRow HB.out (Nat.le_succ _) _)
  have k0:w9.cell? ⟨w.heap.size+1,0,none⟩=some (.int .i64 0):=by rw[Zh HR9.out]; rfl
  have k1:w9.cell? ⟨w.heap.size+1,1,none⟩=some (.slice none 0 0):=by rw[Zh HR9.out]; rfl
  have k2:w9.cell? ⟨w.heap.size+1,2,none⟩=some (.slice none 0 0):=by rw[Zh HR9.out]; rfl
  clear hw9
  go_upto_region 10 with(fail)
  go_wp2_with (first|(refine wpList_store_row rfl 45 _ _ rfl (w.heap.size+1) #[.int .i64 0,.slice none 0 0,.slice none 0 0] rfl rfl 45 #[.int .i64 0,.slice none 0 0,.slice none 0 0] H1.out Yg rfl Yh ?_; refine(congrArg _ HE9.out).mpr ?_)|fail)
  refine bodyPost_ret (v:= .tuple #[.agg #[.int .i64 0,.slice none 0 0,.slice none 0 0],.int .i64 11]) (by simp[results,Tryz.results38,go_sem,k0,k1,k2]) rfl ⟨?_,HB9.out⟩
  exact rfl
 have d2: ¬ (256:Int)<(b2:Int):=by omega
 by_cases c3:65536<b0+b1
 ·have hbad:(Rw.mk b0 b1 b2 b3 b4 b5).ok bs.length=false:=by
   rw[Bool.eq_false_iff]
   intro q
   simp only[Rw.ok,inL,Bool.and_eq_true,Bool.or_eq_true,decide_eq_true_eq] at q
   omega
  have hrr:=HRR.out
  rw[hbad,if_neg (by simp)] at hrr
  subst hrr
  clear hbad
  have d3:(65536:Int)<(b0:Int)+(b1:Int):=by omega
  have z0:wr.cell? ⟨w.heap.size+2,0,none⟩=some (.int .i64 0):=by rw[Zh H2.out]; rfl
  have z1:wr.cell? ⟨w.heap.size+2,1,none⟩=some (.slice none 0 0):=by rw[Zh H2.out]; rfl
  have z2:wr.cell? ⟨w.heap.size+2,2,none⟩=some (.slice none 0 0):=by rw[Zh H2.out]; rfl
  obtain⟨w9,hw9⟩: ∃ w9,wr.setRow (w.heap.size+1) #[.int .i64 0,.slice none 0 0,.slice none 0 0]=w9:=⟨_,rfl⟩
  have HE9:=Zg hw9
  have HR9:=Zg (show w9.heap[w.heap.size+1]? =some (.cells #[.int .i64 0,.slice none 0 0,.slice none 0 0] 45 (0,0)) from by rw[←hw9]; exact setRow_heap _ _ _ _ _ _ H1.out)
  have HB9:=Zg (show Below w.heap.size w w9 from by rw[←hw9]; exact below_setRow HB.out (Nat.le_succ _) _)
  have k0:w9.cell? ⟨w.heap.size+1,0,none⟩=some (.int .i64 0):=by rw[Zh HR9.out]; rfl
  have k1:w9.cell? ⟨w.heap.size+1,1,none⟩=some (.slice none 0 0):=by rw[Zh HR9.out]; rfl
  have k2:w9.cell? ⟨w.heap.size+1,2,none⟩=some (.slice none 0 0):=by rw[Zh HR9.out]; rfl
  clear hw9
  go_upto_region 10 with(fail)
  go_wp2_with (first|(refine wpList_store_row rfl 45 _ _ rfl (w.heap.size+1) #[.int .i64 0,.slice none 0 0,.slice none 0 0] rfl rfl 45 #[.int .i64 0,.slice none 0 0,.slice none 0 0] H1.out Yg rfl Yh ?_; refine(congrArg _ HE9.out).mpr ?_)|fail)
  refine bodyPost_ret (v:= .tuple #[.agg #[.int .i64 0,.slice none 0 0,.slice none 0 0],.int .i64 11]) (by simp[results,Tryz.results38,go_sem,k0,k1,k2]) rfl ⟨?_,HB9.out⟩
  exact rfl
 have d3: ¬ (65536:Int)<(b0:Int)+(b1:Int):=by omega
 have HI:=Zg (fun(x y:Nat) W=>Zj3 bs.length x y W (by omega))
 obtain⟨f4,hf4⟩: ∃ q,4 * b1=q:=⟨_,rfl⟩
 obtain⟨n4,hn4⟩: ∃ q,4 * b2=q:=⟨_,rfl⟩
 obtain⟨n2,hn2⟩: ∃ q,2 * b2=q:=⟨_,rfl⟩
 have ef4:(4:Int) * (b1:Int)=(f4:Int):=by omega
 have en4:(4:Int) * (b2:Int)=(n4:Int):=by omega
 have en2:(2:Int) * (b2:Int)=(n2:Int):=by omega
 have wf4:IntKind.i64.wrap (f4:Int)=(f4:Int):=by rw[IntKind.wrap_i64]; omega
 have wn4:IntKind.i64.wrap (n4:Int)=(n4:Int):=by rw[IntKind.wrap_i64]; omega
 have wn2:IntKind.i64.wrap (n2:Int)=(n2:Int):=by rw[IntKind.wrap_i64]; omega
 by_cases k1:b1=0
 ·have q1: ¬ (0:Int)<(b1:Int):=by omega
  have HKA:=Zg k1
  clear k1
  by_cases k2:b2=0
  ·have q2: ¬ (0:Int)<(b2:Int):=by omega
   have HKB:=Zg k2
   clear k2
   have hgood:(Rw.mk b0 b1 b2 b3 b4 b5).ok bs.length=true:=by
    have:=HKA.out
    have:=HKB.out
    simp only[Rw.ok,inL,Bool.and_eq_true,Bool.or_eq_true,decide_eq_true_eq]
    omega
   have hrr:=HRR.out
   rw[hgood,if_pos rfl] at hrr
   have HRR2:=Zg hrr
   have hin1:=Zg (show b1=0∨b3+4 * b1≤bs.length from by have:=HKA.out; omega)
   have hin2:=Zg (show b2=0∨(b4+4 * b2≤bs.length∧b5+2 * b2≤bs.length) from by have:=HKB.out; omega)
   clear hgood hrr
   go_wp2_with fail
   refine HK2.out _ _ ?_
   exact Ve bs rva size b0 b1 b2 b3 b4 b5 w wr _ RR HLB hlen HRZ.out.1 HRZ.out.2 (by omega) (by omega) hin1 hin2 (Zg rfl) HRR2 HB H0 H1 H2 H3 _ ⟨rfl,rfl,rfl⟩
  ·have q2:(0:Int)<(b2:Int):=by omega
   have HKB:=Zg k2
   clear k2
   go_wp2_with fail
   refine(HI.out b4 n4 _).mono ?_
   rintro e w' ⟨rfl,rfl⟩
   by_cases c4:b4+n4≤bs.length
   ·rw[decide_eq_true c4]
    go_wp2_with fail
    refine(HI.out b5 n2 _).mono ?_
    rintro e w' ⟨rfl,rfl⟩
    by_cases c5:b5+n2≤bs.length
    ·rw[decide_eq_true c5]
     have hgood:(Rw.mk b0 b1 b2 b3 b4 b5).ok bs.length=true:=by
      have:=HKA.out
      have:=HKB.out
      simp only[Rw.ok,inL,Bool.and_eq_true,Bool.or_eq_true,decide_eq_true_eq]
      omega
     have hrr:=HRR.out
     rw[hgood,if_pos rfl] at hrr
     have HRR2:=Zg hrr
     have hin1:=Zg (show b1=0∨b3+4 * b1≤bs.length from by have:=HKA.out; omega)
     have hin2:=Zg (show b2=0∨(b4+4 * b2≤bs.length∧b5+2 * b2≤bs.length) from by have:=HKB.out; omega)
     clear hgood hrr
     go_wp2_with fail
     refine HK2.out _ _ ?_
     exact Ve bs rva size b0 b1 b2 b3 b4 b5 w wr _ RR HLB hlen HRZ.out.1 HRZ.out.2 (by omega) (by omega) hin1 hin2 (Zg rfl) HRR2 HB H0 H1 H2 H3 _ ⟨rfl,rfl,rfl⟩
    ·rw[decide_eq_false c5]
     have hbad:(Rw.mk b0 b1 b2 b3 b4 b5).ok bs.length=false:=by
      rw[Bool.eq_false_iff]
      intro q
      simp only[Rw.ok,inL,Bool.and_eq_true,Bool.or_eq_true,decide_eq_true_eq] at q
      omega
     have hrr:=HRR.out
     rw[hbad,if_neg (by simp)] at hrr
     subst hrr
     clear hbad
     have z0:wr.cell? ⟨w.heap.size+2,0,none⟩=some (.int .i64 0):=by rw[Zh H2.out]; rfl
     have z1:wr.cell? ⟨w.heap.size+2,1,none⟩=some (.slice none 0 0):=by rw[Zh H2.out]; rfl
     have z2:wr.cell? ⟨w.heap.size+2,2,none⟩=some (.slice none 0 0):=by rw[Zh H2.out]; rfl
     obtain⟨w9,hw9⟩: ∃ w9,wr.setRow (w.heap.size+1) #[.int .i64 0,.slice none 0 0,.slice none 0 0]=w9:=⟨_,rfl⟩
     have HE9:=Zg hw9
     have HR9:=Zg (show w9.heap[w.heap.size+1]? =some (.cells #[.int .i64 0,.slice none 0 0,.slice none 0 0] 45 (0,0)) from by rw[←hw9]; exact setRow_heap _ _ _ _ _ _ H1.out)
     have HB9:=Zg (show Below w.heap.size w w9 from by rw[←hw9]; exact below_setRow HB.out (Nat.le_succ _) _)
     have k0:w9.cell? ⟨w.heap.size+1,0,none⟩=some (.int .i64 0):=by rw[Zh HR9.out]; rfl
     have k1:w9.cell? ⟨w.heap.size+1,1,none⟩=some (.slice none 0 0):=by rw[Zh HR9.out]; rfl
     have k2:w9.cell? ⟨w.heap.size+1,2,none⟩=some (.slice none 0 0):=by rw[Zh HR9.out]; rfl
     clear hw9
     go_upto_region 10 with(fail)
     go_wp2_with (first|(refine wpList_store_row rfl 45 _ _ rfl (w.heap.size+1) #[.int .i64 0,.slice none 0 0,.slice none 0 0] rfl rfl 45 #[.int .i64 0,.slice none 0 0,.slice none 0 0] H1.out Yg rfl Yh ?_; refine(congrArg _ HE9.out).mpr ?_)|fail)
     refine bodyPost_ret (v:= .tuple #[.agg #[.int .i64 0,.slice none 0 0,.slice none 0 0],.int .i64 11]) (by simp[results,Tryz.results38,go_sem,k0,k1,k2]) rfl ⟨?_,HB9.out⟩
     exact rfl
   ·rw[decide_eq_false c4]
    have hbad:(Rw.mk b0 b1 b2 b3 b4 b5).ok bs.length=false:=by
     rw[Bool.eq_false_iff]
     intro q
     simp only[Rw.ok,inL,Bool.and_eq_true,Bool.or_eq_true,decide_eq_true_eq] at q
     omega
    have hrr:=HRR.out
    rw[hbad,if_neg (by simp)] at hrr
    subst hrr
    clear hbad
    have z0:wr.cell? ⟨w.heap.size+2,0,none⟩=some (.int .i64 0):=by rw[Zh H2.out]; rfl
    have z1:wr.cell? ⟨w.heap.size+2,1,none⟩=some (.slice none 0 0):=by rw[Zh H2.out]; rfl
    have z2:wr.cell? ⟨w.heap.size+2,2,none⟩=some (.slice none 0 0):=by rw[Zh H2.out]; rfl
    obtain⟨w9,hw9⟩: ∃ w9,wr.setRow (w.heap.size+1) #[.int .i64 0,.slice none 0 0,.slice none 0 0]=w9:=⟨_,rfl⟩
    have HE9:=Zg hw9
    have HR9:=Zg (show w9.heap[w.heap.size+1]? =some (.cells #[.int .i64 0,.slice none 0 0,.slice none 0 0] 45 (0,0)) from by rw[←hw9]; exact setRow_heap _ _ _ _ _ _ H1.out)
    have HB9:=Zg (show Below w.heap.size w w9 from by rw[←hw9]; exact below_setRow HB.out (Nat.le_succ _) _)
    have k0:w9.cell? ⟨w.heap.size+1,0,none⟩=some (.int .i64 0):=by rw[Zh HR9.out]; rfl
    have k1:w9.cell? ⟨w.heap.size+1,1,none⟩=some (.slice none 0 0):=by rw[Zh HR9.out]; rfl
    have k2:w9.cell? ⟨w.heap.size+1,2,none⟩=some (.slice none 0 0):=by rw[Zh HR9.out]; rfl
    clear hw9
    go_upto_region 10 with(fail)
    go_wp2_with (first|(refine wpList_store_row rfl 45 _ _ rfl (w.heap.size+1) #[.int .i64 0,.slice none 0 0,.slice none 0 0] rfl rfl 45 #[.int .i64 0,.slice none 0 0,.slice none 0 0] H1.out Yg rfl Yh ?_; refine(congrArg _ HE9.out).mpr ?_)|fail)
    refine bodyPost_ret (v:= .tuple #[.agg #[.int .i64 0,.slice none 0 0,.slice none 0 0],.int .i64 11]) (by simp[results,Tryz.results38,go_sem,k0,k1,k2]) rfl ⟨?_,HB9.out⟩
    exact rfl
 ·have q1:(0:Int)<(b1:Int):=by omega
  have HKA:=Zg k1
  clear k1
  go_wp2_with fail
  refine(HI.out b3 f4 _).mono ?_
  rintro e w' ⟨rfl,rfl⟩
  by_cases c6:b3+f4≤bs.length
  ·rw[decide_eq_true c6]
   by_cases k2:b2=0
   ·have q2: ¬ (0:Int)<(b2:Int):=by omega
    have HKB:=Zg k2
    clear k2
    have hgood:(Rw.mk b0 b1 b2 b3 b4 b5).ok bs.length=true:=by
     have:=HKA.out
     have:=HKB.out
     simp only[Rw.ok,inL,Bool.and_eq_true,Bool.or_eq_true,decide_eq_true_eq]
     omega
    have hrr:=HRR.out
    rw[hgood,if_pos rfl] at hrr
    have HRR2:=Zg hrr
    have hin1:=Zg (show b1=0∨b3+4 * b1≤bs.length from by have:=HKA.out; omega)
    have hin2:=Zg (show b2=0∨(b4+4 * b2≤bs.length∧b5+2 * b2≤bs.length) from by have:=HKB.out; omega)
    clear hgood hrr
    go_wp2_with fail
    refine HK2.out _ _ ?_
    exact Ve bs rva size b0 b1 b2 b3 b4 b5 w wr _ RR HLB hlen HRZ.out.1 HRZ.out.2 (by omega) (by omega) hin1 hin2 (Zg rfl) HRR2 HB H0 H1 H2 H3 _ ⟨rfl,rfl,rfl⟩
   ·have q2:(0:Int)<(b2:Int):=by omega
    have HKB:=Zg k2
    clear k2
    go_wp2_with fail
    refine(HI.out b4 n4 _).mono ?_
    rintro e w' ⟨rfl,rfl⟩
    by_cases c4:b4+n4≤bs.length
    ·rw[decide_eq_true c4]
     go_wp2_with fail
     refine(HI.out b5 n2 _).mono ?_
     rintro e w' ⟨rfl,rfl⟩
     by_cases c5:b5+n2≤bs.length
     ·rw[decide_eq_true c5]
      have hgood:(Rw.mk b0 b1 b2 b3 b4 b5).ok bs.length=true:=by
       have:=HKA.out
       have:=HKB.out
       simp only[Rw.ok,inL,Bool.and_eq_true,Bool.or_eq_true,decide_eq_true_eq]
       omega
      have hrr:=HRR.out
      rw[hgood,if_pos rfl] at hrr
      have HRR2:=Zg hrr
      have hin1:=Zg (show b1=0∨b3+4 * b1≤bs.length from by have:=HKA.out; omega)
      have hin2:=Zg (show b2=0∨(b4+4 * b2≤bs.length∧b5+2 * b2≤bs.length) from by have:=HKB.out; omega)
      clear hgood hrr
      go_wp2_with fail
      refine HK2.out _ _ ?_
      exact Ve bs rva size b0 b1 b2 b3 b4 b5 w wr _ RR HLB hlen HRZ.out.1 HRZ.out.2 (by omega) (by omega) hin1 hin2 (Zg rfl) HRR2 HB H0 H1 H2 H3 _ ⟨rfl,rfl,rfl⟩
     ·rw[decide_eq_false c5]
      have hbad:(Rw.mk b0 b1 b2 b3 b4 b5).ok bs.length=false:=by
       rw[Bool.eq_false_iff]
       intro q
       simp only[Rw.ok,inL,Bool.and_eq_true,Bool.or_eq_true,decide_eq_true_eq] at q
       omega
      have hrr:=HRR.out
      rw[hbad,if_neg (by simp)] at hrr
      subst hrr
      clear hbad
      have z0:wr.cell? ⟨w.heap.size+2,0,none⟩=some (.int .i64 0):=by rw[Zh H2.out]; rfl
      have z1:wr.cell? ⟨w.heap.size+2,1,none⟩=some (.slice none 0 0):=by rw[Zh H2.out]; rfl
      have z2:wr.cell? ⟨w.heap.size+2,2,none⟩=some (.slice none 0 0):=by rw[Zh H2.out]; rfl
      obtain⟨w9,hw9⟩: ∃ w9,wr.setRow (w.heap.size+1) #[.int .i64 0,.slice none 0 0,.slice none 0 0]=w9:=⟨_,rfl⟩
      have HE9:=Zg hw9
      have HR9:=Zg (show w9.heap[w.heap.size+1]? =some (.cells #[.int .i64 0,.slice none 0 0,.slice none 0 0] 45 (0,0)) from by rw[←hw9]; exact setRow_heap _ _ _ _ _ _ H1.out)
      have HB9:=Zg (show Below w.heap.size w w9 from by rw[←hw9]; exact below_setRow HB.out (Nat.le_succ _) _)
      have k0:w9.cell? ⟨w.heap.size+1,0,none⟩=some (.int .i64 0):=by rw[Zh HR9.out]; rfl
      have k1:w9.cell? ⟨w.heap.size+1,1,none⟩=some (.slice none 0 0):=by rw[Zh HR9.out]; rfl
      have k2:w9.cell? ⟨w.heap.size+1,2,none⟩=some (.slice none 0 0):=by rw[Zh HR9.out]; rfl
      clear hw9
      go_upto_region 10 with(fail)
      go_wp2_with (first|(refine wpList_store_row rfl 45 _ _ rfl (w.heap.size+1) #[.int .i64 0,.slice none 0 0,.slice none 0 0] rfl rfl 45 #[.int .i64 0,.slice none 0 0,.slice none 0 0] H1.out Yg rfl Yh ?_; refine(congrArg _ HE9.out).mpr ?_)|fail)
      refine bodyPost_ret (v:= .tuple #[.agg #[.int .i64 0,.slice none 0 0,.slice none 0 0],.int .i64 11]) (by simp[results,Tryz.results38,go_sem,k0,k1,k2]) rfl ⟨?_,HB9.out⟩
      exact rfl
    ·rw[decide_eq_false c4]
     have hbad:(Rw.mk b0 b1 b2 b3 b4 b5).ok bs.length=false:=by
      rw[Bool.eq_false_iff]
      intro q
      simp only[Rw.ok,inL,Bool.and_eq_true,Bool.or_eq_true,decide_eq_true_eq] at q
      omega
     have hrr:=HRR.out
     rw[hbad,if_neg (by simp)] at hrr
     subst hrr
     clear hbad
     have z0:wr.cell? ⟨w.heap.size+2,0,none⟩=some (.int .i64 0):=by rw[Zh H2.out]; rfl
     have z1:wr.cell? ⟨w.heap.size+2,1,none⟩=some (.slice none 0 0):=by rw[Zh H2.out]; rfl
     have z2:wr.cell? ⟨w.heap.size+2,2,none⟩=some (.slice none 0 0):=by rw[Zh H2.out]; rfl
     obtain⟨w9,hw9⟩: ∃ w9,wr.setRow (w.heap.size+1) #[.int .i64 0,.slice none 0 0,.slice none 0 0]=w9:=⟨_,rfl⟩
     have HE9:=Zg hw9
     have HR9:=Zg (show w9.heap[w.heap.size+1]? =some (.cells #[.int .i64 0,.slice none 0 0,.slice none 0 0] 45 (0,0)) from by rw[←hw9]; exact setRow_heap _ _ _ _ _ _ H1.out)
     have HB9:=Zg (show Below w.heap.size w w9 from by rw[←hw9]; exact below_setRow HB.out (Nat.le_succ _) _)
     have k0:w9.cell? ⟨w.heap.size+1,0,none⟩=some (.int .i64 0):=by rw[Zh HR9.out]; rfl
     have k1:w9.cell? ⟨w.heap.size+1,1,none⟩=some (.slice none 0 0):=by rw[Zh HR9.out]; rfl
     have k2:w9.cell? ⟨w.heap.size+1,2,none⟩=some (.slice none 0 0):=by rw[Zh HR9.out]; rfl
     clear hw9
     go_upto_region 10 with(fail)
     go_wp2_with (first|(refine wpList_store_row rfl 45 _ _ rfl (w.heap.size+1) #[.int .i64 0,.slice none 0 0,.slice none 0 0] rfl rfl 45 #[.int .i64 0,.slice none 0 0,.slice none 0 0] H1.out Yg rfl Yh ?_; refine(congrArg _ HE9.out).mpr ?_)|fail)
     refine bodyPost_ret (v:= .tuple #[.agg #[.int .i64 0,.slice none 0 0,.slice none 0 0],.int .i64 11]) (by simp[results,Tryz.results38,go_sem,k0,k1,k2]) rfl ⟨?_,HB9.out⟩
     exact rfl
  ·rw[decide_eq_false c6]
   have hbad:(Rw.mk b0 b1 b2 b3 b4 b5).ok bs.length=false:=by
    rw[Bool.eq_false_iff]
    intro q
    simp only[Rw.ok,inL,Bool.and_eq_true,Bool.or_eq_true,decide_eq_true_eq] at q
    omega
   have hrr:=HRR.out
   rw[hbad,if_neg (by simp)] at hrr
   subst hrr
   clear hbad
   have z0:wr.cell? ⟨w.heap.size+2,0,none⟩=some (.int .i64 0):=by rw[Zh H2.out]; rfl
   have z1:wr.cell? ⟨w.heap.size+2,1,none⟩=some (.slice none 0 0):=by rw[Zh H2.out]; rfl
   have z2:wr.cell? ⟨w.heap.size+2,2,none⟩=some (.slice none 0 0):=by rw[Zh H2.out]; rfl
   obtain⟨w9,hw9⟩: ∃ w9,wr.setRow (w.heap.size+1) #[.int .i64 0,.slice none 0 0,.slice none 0 0]=w9:=⟨_,rfl⟩
   have HE9:=Zg hw9
   have HR9:=Zg (show w9.heap[w.heap.size+1]? =some (.cells #[.int .i64 0,.slice none 0 0,.slice none 0 0] 45 (0,0)) from by rw[←hw9]; exact setRow_heap _ _ _ _ _ _ H1.out)
   have HB9:=Zg (show Below w.heap.size w w9 from by rw[←hw9]; exact below_setRow HB.out (Nat.le_succ _) _)
   have k0:w9.cell? ⟨w.heap.size+1,0,none⟩=some (.int .i64 0):=by rw[Zh HR9.out]; rfl
   have k1:w9.cell? ⟨w.heap.size+1,1,none⟩=some (.slice none 0 0):=by rw[Zh HR9.out]; rfl
   have k2:w9.cell? ⟨w.heap.size+1,2,none⟩=some (.slice none 0 0):=by rw[Zh HR9.out]; rfl
   clear hw9
   go_upto_region 10 with(fail)
   go_wp2_with (first|(refine wpList_store_row rfl 45 _ _ rfl (w.heap.size+1) #[.int .i64 0,.slice none 0 0,.slice none 0 0] rfl rfl 45 #[.int .i64 0,.slice none 0 0,.slice none 0 0] H1.out Yg rfl Yh ?_; refine(congrArg _ HE9.out).mpr ?_)|fail)
   refine bodyPost_ret (v:= .tuple #[.agg #[.int .i64 0,.slice none 0 0,.slice none 0 0],.int .i64 11]) (by simp[results,Tryz.results38,go_sem,k0,k1,k2]) rfl ⟨?_,HB9.out⟩
   exact rfl
end Go.Proofs.YtplgdpjbkdagfaaGreat
