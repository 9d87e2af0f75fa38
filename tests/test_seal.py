import itertools
import unittest

from eightbytes.refs import bound, less, look, move, root, seal
from tests.reference import parts, reference, scattered, stretch

V = reference(address=0x12345678, upper=0x9A, lower=0x56, power=4, rights=0x155)


def sealed(mark):
    return reference(address=0x12345678, upper=0x9A, lower=0x56, power=4, seal=mark, rights=0x155)


def sealer(address=3, upper=8, lower=1, power=0, seal=0, rights=256):
    return reference(address, upper, lower, power, seal, rights)


class SealOrdinary(unittest.TestCase):
    def test_each_seal(self):
        for mark in range(1, 8):
            self.assertEqual(seal(V, 1, sealer(address=mark), 1), [1, sealed(mark)])

    def test_a_written_number(self):
        self.assertEqual(seal(0x0081_0408_0000_000A, 1, 0x800F_00FF_0000_0005, 1), [1, 0x00D1_0408_0000_000A])

    def test_by_the_root(self):
        y = root(256)[1]
        self.assertEqual(seal(V, 1, y, 1), [0, V])
        self.assertEqual(seal(V, 1, move(y, 1, 6)[1], 1), [1, sealed(6)])

    def test_any_reference_may_be_sealed(self):
        for v in (0, reference(rights=511), reference(address=9, upper=3, lower=10, power=15)):
            address, upper, lower, power, _, rights = parts(v)
            self.assertEqual(seal(v, 1, sealer(), 1), [1, reference(address, upper, lower, power, 3, rights)])

    def test_by_itself(self):
        v = sealer(address=4, rights=300)
        self.assertEqual(seal(v, 1, v, 1), [1, sealer(address=4, rights=300, seal=4)])

    def test_with_other_rights_too(self):
        self.assertEqual(seal(V, 1, sealer(rights=511), 1), [1, sealed(3)])


class SealRefusals(unittest.TestCase):
    def test_v_not_good(self):
        self.assertEqual(seal(V, 0, sealer(), 1), [0, V])

    def test_y_not_good(self):
        self.assertEqual(seal(V, 1, sealer(), 0), [0, V])

    def test_neither_good(self):
        self.assertEqual(seal(V, 0, sealer(), 0), [0, V])

    def test_v_sealed(self):
        for old, new in itertools.product(range(1, 8), range(1, 8)):
            self.assertEqual(seal(sealed(old), 1, sealer(address=new), 1), [0, sealed(old)])

    def test_y_sealed(self):
        for mark in range(1, 8):
            self.assertEqual(seal(V, 1, sealer(seal=mark), 1), [0, V])

    def test_y_without_the_right(self):
        for rights in (0, 1, 128, 255):
            self.assertEqual(seal(V, 1, sealer(rights=rights), 1), [0, V])

    def test_that_v_has_the_right_does_not_help(self):
        v = reference(address=3, upper=8, lower=1, rights=511)
        self.assertEqual(seal(v, 1, sealer(rights=255), 1), [0, v])


class SealAddress(unittest.TestCase):
    def test_0_and_8_are_no_seals(self):
        for address, mark in ((0, None), (1, 1), (7, 7), (8, None), (9, None), (15, None), (16, None), (254, None)):
            answer = [0, V] if mark is None else [1, sealed(mark)]
            self.assertEqual(seal(V, 1, sealer(address=address, upper=255, lower=0), 1), answer)

    def test_great_addresses_are_no_seals(self):
        for address in (2 ** 3 + 1, 2 ** 16 + 1, 2 ** 24 + 1, 2 ** 31 + 3, 254 * 2 ** 24 + 3):
            y = sealer(address=address, upper=255, lower=0, power=15)
            self.assertTrue(stretch(y)[0] <= address < stretch(y)[1])
            self.assertEqual(seal(V, 1, y, 1), [0, V])

    def test_where_the_stretch_begins_and_ends(self):
        # The stretch is from 2 up to 5.
        for address, number in ((1, 0), (2, 1), (3, 1), (4, 1), (5, 0), (6, 0)):
            answer = [1, sealed(address)] if number == 1 else [0, V]
            self.assertEqual(seal(V, 1, sealer(address=address, upper=5, lower=2), 1), answer)

    def test_grains_of_4(self):
        # The stretch is from 4 up to 8.
        for address in (1, 3, 4, 7):
            answer = [1, sealed(address)] if address >= 4 else [0, V]
            self.assertEqual(seal(V, 1, sealer(address=address, upper=2, lower=1, power=2), 1), answer)

    def test_an_empty_stretch(self):
        for mark in range(9):
            for address in range(1, 8):
                self.assertEqual(seal(V, 1, sealer(address=address, upper=mark, lower=mark), 1), [0, V])

    def test_upper_below_lower(self):
        # From -6 up to 5.
        for address, number in ((4, 1), (5, 0)):
            answer = [1, sealed(address)] if number == 1 else [0, V]
            self.assertEqual(seal(V, 1, sealer(address=address, upper=5, lower=250), 1), answer)

    def test_a_stretch_below_0(self):
        # Address 3 is below the lower mark 5: the stretch is from -251 up to -248.
        self.assertEqual(seal(V, 1, sealer(address=3, upper=8, lower=5), 1), [0, V])

    def test_power_15(self):
        self.assertEqual(seal(V, 1, sealer(address=3, upper=1, lower=0, power=15), 1), [1, sealed(3)])
        self.assertEqual(seal(V, 1, sealer(address=3, upper=2, lower=1, power=15), 1), [0, V])


class SealMany(unittest.TestCase):
    def check(self, v, good, y, ygood):
        address, upper, lower, power, mark, rights = parts(v)
        place, _, _, _, ymark, yrights = parts(y)
        begin, end = stretch(y)
        both = good == 1 and ygood == 1 and mark == 0 and ymark == 0
        if both and yrights >= 256 and 1 <= place <= 7 and begin <= place < end:
            self.assertEqual(seal(v, good, y, ygood), [1, reference(address, upper, lower, power, place, rights)])
        else:
            self.assertEqual(seal(v, good, y, ygood), [0, v])

    def test_mixed_edges(self):
        marks = (0, 1, 2, 5, 255)
        for address, upper, lower, power in itertools.product(range(10), marks, marks, (0, 1, 3, 14, 15)):
            for good, ygood, ymark, rights in ((1, 1, 0, 256), (1, 1, 0, 255), (1, 1, 2, 511), (0, 1, 0, 256),
                                               (1, 0, 0, 256)):
                self.check(V, good, reference(address, upper, lower, power, ymark, rights), ygood)

    def test_scattered(self):
        for v in scattered(500):
            # A small address and no seal come seldom by themselves.
            y = (v * 5 + 3) % 2 ** 64 & ~(7 << 52) & ~(2 ** 32 - 1) | v % 9
            for good, ygood in itertools.product((0, 1), (0, 1)):
                self.check(v, good, y, ygood)
                self.check(v & ~(7 << 52), good, y, ygood)
                self.check(v & ~(7 << 52), good, v, ygood)

    def test_e_a_sealed_one_does_not_stay_good(self):
        number, v = seal(V, 1, sealer(), 1)
        self.assertEqual(number, 1)
        self.assertEqual(move(v, 1, 0x12345678)[0], 0)
        self.assertEqual(bound(v, 1, 1, 0)[0], 0)
        self.assertEqual(less(v, 1, 511)[0], 0)
        self.assertEqual(seal(v, 1, sealer(), 1), [0, v])
        self.assertEqual(look(v)[4], 3)


if __name__ == "__main__":
    unittest.main()
